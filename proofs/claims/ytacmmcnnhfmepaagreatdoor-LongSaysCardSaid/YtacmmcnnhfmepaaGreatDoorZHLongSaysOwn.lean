/- Several texts in one. -/
import Derived.Test.YtacmmcnnhfmepaaGreatDoorZELongSaysOwn
import Derived.Test.YtacmmcnnhfmepaaGreatDoorIf6
import Derived.Laws.EntriesVeiled
namespace Go.Proofs.YtacmmcnnhfmepaaGreatDoor
set_option linter.all false
set_option maxRecDepth 20000
set_option maxHeartbeats 8000000
open Go.RowKit Go.Proofs.Tryz
theorem RY {s:ByteArray}:∀ {l:List ByteArray} (h:Bz s l<l.length),l[Bz s l]=s
 | [],h=>by simp[Bz] at h
 |n::r,h=>by
  by_cases e:n=s
  ·subst e;simp[Bz]
  ·have e2:Bz s (n::r)=Bz s r+1:=(by simp[Bz,e]);have h2:Bz s r<r.length:=by rw[e2] at h; simpa using h
   simp only[e2,Fg];exact RY h2
theorem RZ {s:ByteArray}:∀ {l:List ByteArray} {k:Nat} (hk:k<Bz s l) (h:k<l.length),l[k]≠s
 | [],_,hk,_=>by simp[Bz] at hk
 |n::r,k,hk,h=>by
  by_cases e:n=s
  ·simp[Bz,e]at hk
  ·have e2:Bz s (n::r)=Bz s r+1:=(by simp[Bz,e]);cases k with
   |zero=>simpa using e
   |succ k=>simp only[Fg];exact RZ (by omega) (by simpa using h)
theorem X7 {a b:ByteArray} (h:a≠b):(a.toList==b.toList)=false:=by
 rw[Dr];intro e;apply h;have h1:=Dl List.toArray e;rw[GH,GH]at h1;cases a; cases b;simpa using h1
theorem Sa {p q k:Tm} (h:k∈Aw [p]∨k∈Aw [q]):k∈Aw [(⟨⟨#[102]⟩,[p,q]⟩:Tm)]:=by
 have h1:Aw [p,q]=Aw [p]++Aw [q]:=(by have:=KW [p] [q];simpa using this);simp only[Aw] at *;rw[h1];simp;exact Ae h
def Sc (t:Tm) (ns:List ByteArray) (w:World) (e:Ending) (w':World):Prop:=
 ∃a c,e=.returned (.agg #[zA (Ck ns t).base,.slice a (Ck ns t).subs.length c])/\AM w' (λb=>w.heap.size<=b) a (Ck ns t).subs/\Below w.heap.size w w'
theorem X8 {d:List ByteArray} (a7:d.length<=100000) (t:Tm):∀(v Z:Value) (w:World) (X Y:Nat->Prop),AW [t]->(∀k∈Aw [t],k.args=[]->k.name∈d)->TV w X v t->LV Value.string w Y Z d->
  Calls prog 27 #[v,Z] w λe w'=>Sc t d w e w':=by
 induction t using Tm.ind with
 |h m B ih=>
  intro v Z w X Y hk F hv hn;have R:=Aa ih;clear ih;obtain⟨a,c,rfl,hs⟩:=hv;have an:=Aa hn;obtain⟨na,nc,rfl,-,ao⟩:=hn;have u:Hid (Below w.heap.size w ((w.alloc (.cells #[.string m,.slice a B.length c] 61)).alloc (.cells #[zA 0,zB] 27))):=((Ac _ _).alloc (Ag _) _).alloc (by simp) _;have s:Hid (Ab ((w.alloc (.cells #[.string m,.slice a B.length c] 61)).alloc (.cells #[zA 0,zB] 27)) w.heap.size #[.string m,.slice a B.length c] 61):=(Ab.new _ _ _).alloc _;have H:Hid (Ab ((w.alloc (.cells #[.string m,.slice a B.length c] 61)).alloc (.cells #[zA 0,zB] 27)) (w.heap.size+1) #[zA 0,zB] 27):=by have h:=Ab.new (w.alloc (.cells #[.string m,.slice a B.length c] 61)) #[zA 0,zB] 27; rw[BK] at h; exact h
  rcases Ri hk with ⟨hvb,ht⟩|⟨p,q,ht,a8,aA⟩
  ·have aB:B=[]:=(by injection ht);subst aB;have ab:m∈d:=F ⟨m,[]⟩ (by simp[Aw]) rfl;have aJ:=LU ab;rcases ao with rfl|⟨nb,no,rfl,aK,aa⟩
   ·simp at ab
   have KN:Hid (∀w',Below w.heap.size w w'->∀i (h:i<d.length),w'.cell? ⟨nb,no+i,none⟩=some (.string d[i])):=λw' hb i h=>cell_later hb (aa i h);clear hk hvb ht hs R F aa ab;simp only[Ee] at *;go_enter func27,ntmps27;go_upto_region 1 with fail;generalize ((w.alloc (.cells #[.string m,.slice a 0 c] 61)).alloc (.cells #[zA 0,zB] 27))=w2 at *;have x1:=s.o.c1;have x0:=s.o.c0;have aC:=a7;go_wp2_with fail;go_loopw [5] (λo wr=>∃k:Nat,k<=Bz m d/\o=zA k/\Below w2.heap.size w2 wr) (λo wr=>d.length-(intOf o).toNat);case atStart=>exact⟨0,Bm _,rfl,Ac _ _⟩
   case round=>
    obtain⟨k,hk,rfl,I⟩:=hrel;have aq:=Aa I;have ah:k<d.length:=(by omega);have J:=KN.o wr (u.o.trans (I.mono u.o.size)) k ah;have aD:(k:Int)<(d.length:Int):=(by omega);have A3:=Aa (s.o.below I s.o.lt);have L:=Aa (H.o.below I H.o.lt);have x0:=A3.o.c0;clear I;by_cases he:k=Bz m d
    ·have ar:d[k]=m:=by subst he; exact RY ah
     rw[ar]at J;have HK:=Aa he;have r0:=L.o.c0;have r1:=L.o.c1;have f0:wr.frozen? (zD (w.heap.size+1) 0)=false:=L.o.frozen 0;have f1:wr.frozen? (zD (w.heap.size+1) 1)=false:=L.o.frozen 1;clear he ar hk;go_wp2_with fail;go_quiet (fail)
     have M:Hid (Ab (wr.drewN nq) (w.heap.size+1) #[zA 0,zB] 27):=L.o.drewN nq;have B4:Hid (Below w2.heap.size w2 (wr.drewN nq)):=below_drewN aq.o nq;generalize wr.drewN nq=n at *;have r0:=M.o.c0;have r1:=M.o.c1;have f0:n.frozen? (zD (w.heap.size+1) 0)=false:=M.o.frozen 0;have f1:n.frozen? (zD (w.heap.size+1) 1)=false:=M.o.frozen 1;go_wp2_with fail;have R5:Hid (Ab ((n.setCell (zD (w.heap.size+1) 0) (zA k)).setCell (zD (w.heap.size+1) 1) zB) (w.heap.size+1) #[zA k,zB] 27):=(M.o.set 0 _).set 1 _;have B5:Hid (Below w.heap.size w ((n.setCell (zD (w.heap.size+1) 0) (zA k)).setCell (zD (w.heap.size+1) 1) zB)):=Cy (Cy (u.o.trans (B4.o.mono u.o.size)) (by omega) 0 _) (by omega) 1 _;generalize ((n.setCell (zD (w.heap.size+1) 0) (zA k)).setCell (zD (w.heap.size+1) 1) zB)=w5 at *;have c0:=R5.o.cell 0;have c1:=R5.o.cell 1;simp only[BP,BR,BQ] at c0 c1;refine Ao (v:=.agg #[zA k,zB]) (by simp[results,results27,go_sem,c0,c1]) rfl ?_;refine⟨none,0,?_,?_,B5.o⟩
     ·rw[Jh,HK.o]; rfl
     ·rw[Jh]; exact⟨by simp,Ad rfl⟩
    ·have aE:k<Bz m d:=(by omega);have hne:=X7 (RZ aE ah);clear he;go_wp2_with fail;go_quiet (fail)
     go_wp2_with fail;go_roundw
     case rel=>exact⟨k+1,by omega,by go_num,below_drewN aq.o nq⟩
     case measure=>simp[intOf]; omega
  ·injection ht with e1 e2
   subst e1;subst e2;obtain⟨b',o',a1,c1,a2,c2,rfl,au⟩:=Rj hs;have KP:Hid (∀w',Below w.heap.size w w'->_):=λw' hb=>au w' (λ_=>False) (Ak.ofBelow hb) (λ_ _ h=>h);clear au hs hk ao;have av:∀k∈Aw [p],k.args=[]->k.name∈d:=λk hk=>F k (Sa (Ad hk));have aw:∀k∈Aw [q],k.args=[]->k.name∈d:=λk hk=>F k (Sa (Ae hk));have IP:=Aa (λv w' h1 h2=>R.o p (by simp) v (.slice na d.length nc) w' X Y a8 av h1 h2);have IQ:=Aa (λv w' h1 h2=>R.o q (by simp) v (.slice na d.length nc) w' X Y aA aw h1 h2);clear R av aw F;have e2:([p,q]:List Tm).length=2:=rfl;rw[e2]at *;clear e2;have T:=Aa (Rh d p q);change Calls prog _ _ _ (λe w'=>Sc (Bs p q) d w e w');go_enter func27,ntmps27;go_upto_region 1 with fail;generalize ((w.alloc (.cells #[.string ⟨#[102]⟩,.slice (some (zD b' o')) 2 c] 61)).alloc (.cells #[zA 0,zB] 27))=w2 at *;have x1:=s.o.c1;go_wp2_with fail;clear x1;have C:Hid (w.heap.size+1<w2.heap.size):=H.o.lt;have U:Hid (∀w',(Ab w' w.heap.size #[.string ⟨#[102]⟩,.slice (some (zD b' o')) 2 c] 61/\Below w.heap.size w w')->w'.cell? (zD w.heap.size 1)=some (.slice (some (zD b' o')) 2 c)/\w'.cell? (zD b' o')=some (.string p.name)/\w'.cell? ⟨b',o'+1,none⟩=some (.slice a1 p.args.length c1)/\w'.cell? ⟨b',o'+2,none⟩=some (.string q.name)/\w'.cell? ⟨b',o'+2+1,none⟩=some (.slice a2 q.args.length c2)):=λw' h=>⟨h.1.cell 1,(KP.o w' h.2).1⟩;have kd:Ab w2.drew w.heap.size #[.string ⟨#[102]⟩,.slice (some (zD b' o')) 2 c] 61/\Below w.heap.size w w2.drew:=⟨s.o,u.o.drew⟩;refine CC (S:=λw'=>Ab w' w.heap.size #[.string ⟨#[102]⟩,.slice (some (zD b' o')) 2 c] 61/\Below w.heap.size w w') (by kernel_rfl) kd λhH=>?_;refine tkz 0 ?_;refine tkz 1 ?_ (hy:=by intro w' z;obtain⟨J,y1,y2,y3,y4⟩:=U.o w' z;go_simp<;>with_reducible rfl);refine tkz 2 ?_;refine tkz 3 ?_ (hy:=by intro w' z;obtain⟨J,y1,y2,y3,y4⟩:=U.o w' z;go_simp<;>with_reducible rfl);refine tkz 4 ?_;refine tkz 6 ?_;refine tkz 7 ?_ (hy:=by intro w' z;obtain⟨J,y1,y2,y3,y4⟩:=U.o w' z;go_simp<;>with_reducible rfl);refine tkz 8 ?_;refine tkz 9 ?_ (hy:=by intro w' z;obtain⟨J,y1,y2,y3,y4⟩:=U.o w' z;go_simp<;>with_reducible rfl);refine tkz 10 ?_;refine rdq 5 rfl λK r=>?_;go_simp;go_at_call 27;refine(IP.o _ w2.drew (KP.o w2.drew kd.2).2.1 (an.o.later kd.2)).mono ?_;rintro e n ⟨a4,D,rfl,ai,ax⟩;obtain⟨f,ay⟩:∃f,f=Ck d p:=⟨_,rfl⟩;rw[<-ay]at ai T ⊢;clear ay;have N:Hid (Below w2.heap.size w2 n):=((Ac w2.heap.size w2).drew).trans ax;have S4:Hid (AM n (λb=>w2.heap.size<=b) a4 f.subs):=ai.mono λb hb _=>hb;have k4:Ab n w.heap.size #[.string ⟨#[102]⟩,.slice (some (zD b' o')) 2 c] 61/\Below w.heap.size w n:=⟨s.o.below N.o s.o.lt,u.o.trans (N.o.mono u.o.size)⟩;clear ai ax;go_simp;refine r.o _ _ (by exact k4) λhH=>?_;clear r K;(try simp only[Act.put,sq]);refine rdq 11 rfl λK r=>?_;go_simp;go_at_call 27;refine(IQ.o _ n (KP.o n k4.2).2.2 (an.o.later k4.2)).mono ?_;rintro e j ⟨A,E,rfl,aj,ak⟩;obtain⟨g,az⟩:∃g,g=Ck d q:=⟨_,rfl⟩;rw[<-az]at aj T ⊢;clear az;have O:Hid (Below w2.heap.size w2 j):=N.o.trans (ak.mono N.o.size);have aF:=Aa (S4.o.later ak);have aG:Hid (AM j (λb=>w2.heap.size<=b) A g.subs):=aj.mono λb hb _=>AN N.o.size hb;have V:Ab j w.heap.size #[.string ⟨#[102]⟩,.slice (some (zD b' o')) 2 c] 61/\Below w.heap.size w j:=⟨s.o.below O.o s.o.lt,u.o.trans (O.o.mono u.o.size)⟩;clear aj ak S4;go_simp;refine r.o _ _ (by exact V) λhH=>?_;clear r K;(try simp only[Act.put,sq]);have W:Hid (Below j.heap.size j (j.alloc (.cells #[zA f.base,.slice a4 f.subs.length D,zA g.base,.slice A g.subs.length E] 27))):=(Ac _ _).alloc (Ag _) _;have k7:Ab (j.alloc (.cells #[zA f.base,.slice a4 f.subs.length D,zA g.base,.slice A g.subs.length E] 27)) w.heap.size #[.string ⟨#[102]⟩,.slice (some (zD b' o')) 2 c] 61/\Below w.heap.size w (j.alloc (.cells #[zA f.base,.slice a4 f.subs.length D,zA g.base,.slice A g.subs.length E] 27)):=⟨V.1.alloc _,V.2.trans (W.o.mono V.2.size)⟩;have C7:Hid (Ab (j.alloc (.cells #[zA f.base,.slice a4 f.subs.length D,zA g.base,.slice A g.subs.length E] 27)) j.heap.size #[zA f.base,.slice a4 f.subs.length D,zA g.base,.slice A g.subs.length E] 27):=Ab.new _ _ _;refine rdq 12 rfl λK r=>?_;go_simp;refine r.o _ _ (by exact k7) λhH=>?_;clear r K;(try simp only[Act.put,sq]);refine tkz 13 ?_;have P:=Aa (H.o.below (O.o.trans (W.o.mono O.o.size)) H.o.lt);have aH:=Aa (aF.o.later W.o);have aI:=Aa (aG.o.later W.o);have al:Hid (w2.heap.size<=j.heap.size):=O.o.size;generalize j.alloc (.cells #[zA f.base,.slice a4 f.subs.length D,zA g.base,.slice A g.subs.length E] 27)=y at *;generalize j.heap.size=G at *;have r0:=P.o.c0;have r1:=P.o.c1;have f0:y.frozen? (zD (w.heap.size+1) 0)=false:=P.o.frozen 0;have f1:y.frozen? (zD (w.heap.size+1) 1)=false:=P.o.frozen 1;have k8:Ab ((y.setCell (zD (w.heap.size+1) 0) (zA 0)).setCell (zD (w.heap.size+1) 1) (.slice (some (zD G 0)) 2 2)) w.heap.size #[.string ⟨#[102]⟩,.slice (some (zD b' o')) 2 c] 61/\Below w.heap.size w ((y.setCell (zD (w.heap.size+1) 0) (zA 0)).setCell (zD (w.heap.size+1) 1) (.slice (some (zD G 0)) 2 2)):=⟨(k7.1.setOther 0 _ (by omega)).setOther 1 _ (by omega),Cy (Cy k7.2 (by omega) 0 _) (by omega) 1 _⟩;refine rdq 14 rfl λK r=>?_;go_simp;refine r.o _ _ (by exact k8) λhH=>?_;clear r K;(try simp only[Act.put,sq]);refine dnq ?_;have R8:Hid (Ab ((y.setCell (zD (w.heap.size+1) 0) (zA 0)).setCell (zD (w.heap.size+1) 1) (.slice (some (zD G 0)) 2 2)) (w.heap.size+1) #[zA 0,.slice (some (zD G 0)) 2 2] 27):=(P.o.set 0 _).set 1 _;have SE:Hid (∀(x:Option Addr) (l:List Ty),AM y (λb=>w2.heap.size<=b) x l->AM ((y.setCell (zD (w.heap.size+1) 0) (zA 0)).setCell (zD (w.heap.size+1) 1) (.slice (some (zD G 0)) 2 2)) (λb=>w2.heap.size<=b) x l):=λx l h=>h.kept λb hb=>by have h1:=C.o; rw[Al _ _ _ _ (by simp; omega),Al _ _ _ _ (by simp; omega)]
   have S8:Hid (AM ((y.setCell (zD (w.heap.size+1) 0) (zA 0)).setCell (zD (w.heap.size+1) 1) (.slice (some (zD G 0)) 2 2)) (λb=>w.heap.size<=b) (some (zD G 0)) [f,g]):=Rk ((C7.o.setOther 0 _ (by have h1:=C.o; have h2:=al.o; omega)).setOther 1 _ (by have h1:=C.o; have h2:=al.o; omega)) (by have h1:=C.o; have h2:=al.o; omega) ((SE.o _ _ aH.o).mono λb hb _=>by have h1:=C.o; omega) ((SE.o _ _ aI.o).mono λb hb _=>by have h1:=C.o; omega);generalize ((y.setCell (zD (w.heap.size+1) 0) (zA 0)).setCell (zD (w.heap.size+1) 1) (.slice (some (zD G 0)) 2 2))=w8 at *;clear r0 r1 f0 f1;go_wp2_with fail;have c0:=R8.o.cell 0;have c1:=R8.o.cell 1;simp only[BP,BR,BQ] at c0 c1;refine Ao (v:=.agg #[zA 0,.slice (some (zD G 0)) 2 2]) (by simp[results,results27,go_sem,c0,c1]) rfl ?_;refine⟨some (zD G 0),2,?_,?_,k8.2⟩
   ·rw[T.o]; rfl
   ·rw[T.o]; exact S8.o
def AL:List Pr->List Tm
 | []=>[]
 |p::l=>p.l::p.r::AL l
theorem Hc:∀a b:List Pr,AL (a++b)=AL a++AL b
 | [],b=>rfl
 |p::a,b=>by rw[Di,AL,AL,Hc a b]; rfl
theorem Fe (t:Tm) (r:List Tm):Ah (t::r)=Ah [t]+Ah r:=by
 obtain⟨s,l⟩:=t;simp[Ah]
theorem CW {t:Tm} {r:List Tm}:As (t::r)=0↔As [t]=0/\As r=0:=by
 rw[MU];constructor
 ·intro h;by_cases e:As [t]=0
  ·rw[Aq e]at h; exact⟨e,h⟩
  ·rw[Am e]at h; exact absurd h e
 ·rintro⟨h1,h2⟩;rw[Aq h1]; exact h2
theorem Jr:∀ {a b:List Tm},As (a++b)=0↔As a=0/\As b=0
 | [],b=>by simp[As]
 |t::a,b=>by
  rw[Di,CW,Jr,CW (r:=a),and_assoc]
theorem IK {y:ByteArray}:∀ {a b:List Tm},Ax y (AL (Az a b))->Ax y a∨Ax y b
 | [],_,h=>by simp only[Az,AL] at h; exact absurd h FD
 |_::_,[],h=>by simp only[Az,AL] at h; exact absurd h FD
 |t::a,u::b,h=>by
  rw[Az,AL,Ch,Ch (t:=u)]at h;rw[Ch,Ch (t:=u)];rcases h with h|h|h
  ·exact Ad (Ad h)
  ·exact Ae (Ad h)
  ·rcases IK h with h|h
   ·exact Ad (Ae h)
   ·exact Ae (Ae h)
theorem Si:∀ {a b:List Tm},Ah (AL (Az a b))<=Ah a+Ah b
 | [],_=>by simp[Az,AL,Ah]
 |_::_,[]=>by simp[Az,AL,Ah]
 |t::a,u::b=>by
  rw[Az,AL];have h0:=Si (a:=a) (b:=b);have h1:=Fe t (u::AL (Az a b));have h2:=Fe u (AL (Az a b));have h3:=Fe t a;have h4:=Fe u b;simp only at h1 h2 ⊢;omega
theorem Js:∀ {a b:List Tm},As a=0->As b=0->As (AL (Az a b))=0
 | [],_,_,_=>by simp[Az,AL,As]
 |_::_,[],_,_=>by simp[Az,AL,As]
 |t::a,u::b,h1,h2=>by
  rw[Az,AL];obtain⟨g1,g2⟩:=CW.1 h1;obtain⟨g3,g4⟩:=CW.1 h2;exact CW.2 ⟨g1,CW.2 ⟨g3,Js g2 g4⟩⟩
def CG (y:ByteArray) (l:List Tm):Bool:=(Aw l).any λk=>k.name.toList==y.toList
theorem IL {y:ByteArray} {l:List Tm}:CG y l=true↔Ax y l:=by
 unfold CG Ax;rw[ER];constructor
 ·rintro⟨k,hk,e⟩;exact⟨k,hk,FY (by simpa using e)⟩
 ·rintro⟨k,hk,e⟩;exact⟨k,hk,Ip e⟩
def Sj (V:List ByteArray) (l:List Tm):Nat:=(V.filter λy=>CG y l).length
theorem NU {α:Type} {p q:α->Bool}:∀V:List α,(∀y∈V,q y=true->p y=true)->(V.filter q).length<=(V.filter p).length
 | [],_=>by simp
 |v::V,h=>by
  have a:=NU V λy hy=>h y (by simp[hy]);cases hq:q v with
  |true=>rw[Gt hq,Gt (h v (by simp) hq)];simp only[Cg];omega
  |false=>
   rw[GL (by rw[hq]; simp)];cases hp:p v with
   |true=>rw[Gt hp]; simp only[Cg]; omega
   |false=>rw[GL (by rw[hp]; simp)]; exact a
theorem NV {α:Type} {p q:α->Bool}:∀V:List α,(∀y∈V,q y=true->p y=true)->(∃x∈V,p x=true/\q x=false)->(V.filter q).length<(V.filter p).length
 | [],_,⟨x,hx,_⟩=>by cases hx
 |v::V,h,⟨x,hx,h1,h2⟩=>by
  have hle:=NU V λy hy=>h y (by simp[hy]);rcases Cn.1 hx with rfl|hx
  ·rw[GL (by rw[h2]; simp),Gt h1];simp only[Cg];omega
  ·have a:=NV V (λy hy=>h y (by simp[hy])) ⟨x,hx,h1,h2⟩;cases hq:q v with
   |true=>rw[Gt hq,Gt (h v (by simp) hq)];simp only[Cg];omega
   |false=>
    rw[GL (by rw[hq]; simp)];cases hp:p v with
    |true=>rw[Gt hp]; simp only[Cg]; omega
    |false=>rw[GL (by rw[hp]; simp)]; exact a
theorem Km {x:ByteArray} {t:Tm} (hx:Av x=true) (h:¬Cd x (AR [] (Aw [t]))=true):¬Ax x [t]:=by
 rintro⟨k,hk,e⟩;have h1:=(Qp (Aw [t]) []).2 k hk (by rw[e]; exact hx);refine h ?_;unfold Cd;rw[ER];exact⟨k.name,h1,Ip e⟩
theorem NW {s:List Bd} {L:List Tm} {x:ByteArray} {t:Tm} (h:Ce s) (hx:Av x=true) (a:∀d∈s,d.nm≠x) (he:As [t]=0) (ht:∀e∈s,¬Ax e.nm [t]) (ho:¬Ax x [t]) (b:As L=0):
  Ce (CD s x t)/\(∀y,Av y=true->Ax y (An (CD s x t) L)->Ax y (An s L)∨Ax y [t])/\¬Ax x (An (CD s x t) L):=by
 have h1:=h.add hx a he ht ho;have h2:=Jb h hx a h1 L b;have key:∀y,Av y=true->Ax y (An (CD s x t) L)->(Ax y (An s L)/\AC [⟨x,t⟩] y=none)∨Ax y [t]:=λy hy hoc=>by
  rw[h2]at hoc;rcases NC (Qr hx) hy _ (Ix h L b) hoc with h3|⟨d,hd,_,c⟩
  ·exact Ad h3
  ·have e:d=⟨x,t⟩:=(by simpa using hd);rw[e]at c;exact Ae c
 refine⟨h1,λy hy hoc=>(key y hy hoc).imp (λh=>h.1) id,λhoc=>?_⟩;rcases key x hx hoc with ⟨_,h3⟩|h3
 ·simp[AC]at h3
 ·exact ho h3
theorem Ya (V:List ByteArray):∀(c z:Nat) (s:List Bd) (l:List Pr),Ce s->As (AL l)=0->(∀y,Av y=true->Ax y (An s (AL l))->y∈V)->Sj (V.filter Av) (An s (AL l))<=c->Ah (An s (AL l))<=z->∃n r,AZ false n s l=some r:=by
 intro c;induction c using Nat.strongRecOn with
 |_ c J=>
  intro z;induction z using Nat.strongRecOn with
  |_ z M=>
   intro s l f he g hc hz;have stop:∀e s',Eg false s l=.stop e s'->∃n r,AZ false n s l=some r:=λe s' h=>⟨1,(e,s'),by rw[AZ,h]⟩;have go:∀s' l',Eg false s l=.go s' l'->(∃n r,AZ false n s' l'=some r)->∃n r,AZ false n s l=some r:=λs' l' h ⟨n,r,h2⟩=>⟨n+1,r,by rw[AZ,h]; exact h2⟩;cases l with
   |nil=>exact stop 0 s rfl
   |cons p l=>
    obtain⟨e1,e2⟩:=CW.1 he;obtain⟨e2,e3⟩:=CW.1 e2;have B:=EN f e1;have C:=EN f e2;have j:=f.goneT e1;have m:=f.goneT e2;rw[AL,Br,Br]at g hc hz;rw[ED]at stop go;generalize Af s p.l=a at *;generalize Af s p.r=b at *;have i:∀u:Tm,Ax u.name [u]:=λu=>by obtain⟨n,k⟩:=u; exact Dt.2 (Ad rfl)
    have o:∀y,Ax y [a]->Ax y (a::b::An s (AL l)):=λy h=>Ch.2 (Ad h);have q:∀y,Ax y [b]->Ax y (a::b::An s (AL l)):=λy h=>Ch.2 (Ae (Ch.2 (Ad h)));have v:∀y,Ax y (An s (AL l))->Ax y (a::b::An s (AL l)):=λy h=>Ch.2 (Ae (Ch.2 (Ae h)));have N:Ah (a::b::An s (AL l))=Ah [a]+(Ah [b]+Ah (An s (AL l))):=(by rw[Fe,Fe b]);have pa:=Lr a;have pb:=Lr b;have same:∀l2,As (AL l2)=0->(∀y,Ax y (An s (AL l2))->Ax y (a::b::An s (AL l)))->Ah (An s (AL l2))<Ah (a::b::An s (AL l))->∃n r,AZ false n s l2=some r:=λl2 h1 h2 h3=>
     M _ (BO h3 hz) s l2 f h1 (λy hy ho=>g y hy (h2 y ho)) (AN (NU _ λy hy hq=>IL.2 (h2 y (IL.1 hq))) hc) (Ag _)
    have bind:∀x t,Av x=true->(∀d∈s,d.nm≠x)->As [t]=0->(∀e∈s,¬Ax e.nm [t])->Ax x (a::b::An s (AL l))->(∀y,Ax y [t]->Ax y (a::b::An s (AL l)))->Bp false s l a b=Co false s l x t->∃n r,AZ false n s (p::l)=some r:=λx t hx O het ht D P h=>by
     unfold Co at h;by_cases A:Cd x (AR [] (Aw [t]))=true
     ·rw[Aq A]at h;exact stop 6 s h
     ·rw[Am A,Am (by simp)]at h;have ho:=Km hx A;obtain⟨f1,f2,f3⟩:=NW (L:=AL l) f hx O het ht ho e3;have E:∀y,Av y=true->Ax y (An (CD s x t) (AL l))->Ax y (a::b::An s (AL l)):=λy hy hoc=>(f2 y hy hoc).elim (v y) (P y);have R:Sj (V.filter Av) (An (CD s x t) (AL l))<c:=by
       refine BO (NV _ (λy hy hq=>IL.2 (E y (List.mem_filter.1 hy).2 (IL.1 hq))) ⟨x,List.mem_filter.2 ⟨g x hx D,hx⟩,IL.2 D,?_⟩) hc;cases hq:CG x (An (CD s x t) (AL l)) with
       |false=>rfl
       |true=>exact absurd (IL.1 hq) f3
      exact go _ l h (J _ R _ _ _ f1 e3 (λy hy hoc=>g y hy (E y hy hoc)) (Ag _) (Ag _))
    by_cases h1:2000<Ah [a]∨2000<Ah [b]
    ·exact stop 8 s (by unfold Bp; rw[Aq h1])
    ·by_cases h2:Av a.name=true
     ·by_cases h3:a.name=b.name
      ·exact go s l (by unfold Bp; rw[Am h1,Aq h2,Aq h3]) (same l e3 v (by omega))
      ·exact bind a.name b h2 (λd hd e=>j d hd (by rw[e]; exact i a)) C m (o _ (i a)) q (by unfold Bp; rw[Am h1,Aq h2,Am h3])
     ·by_cases h3:Av b.name=true
      ·exact bind b.name a h3 (λd hd e=>m d hd (by rw[e]; exact i b)) B j (q _ (i b)) o (by unfold Bp; rw[Am h1,Am h2,Aq h3])
      ·by_cases F:a.name=b.name/\a.args.length=b.args.length
       ·refine go s (Az a.args b.args++l) (by unfold Bp; rw[Am h1,Am h2,Am h3,Aq F]) ?_;have sub:∀(u:Tm) y,Ax y u.args->Ax y [u]:=λu y h=>by obtain⟨n,k⟩:=u; exact Dt.2 (Ae (Ad h))
        have G:∀u:Tm,As [u]=0->As u.args=0:=λu h=>by obtain⟨n,k⟩:=u; exact(Gy h).2.1
        have H:∀u:Tm,Ah [u]=1+Ah u.args:=λu=>by obtain⟨n,k⟩:=u; simp[Ah]
        have I:An s (AL (Az a.args b.args++l))=AL (Az a.args b.args)++An s (AL l):=by
         rw[Hc,Iq,Iw];intro e hm hoc;rcases IK hoc with hoc|hoc
         ·exact j e hm (sub a _ hoc)
         ·exact m e hm (sub b _ hoc)
        refine same _ ?_ ?_ ?_
        ·rw[Hc];exact Jr.2 ⟨Js (G a B) (G b C),e3⟩
        ·intro y hoc;rw[I]at hoc;rcases LP.1 hoc with hoc|hoc
         ·rcases IK hoc with hoc|hoc
          ·exact o y (sub a y hoc)
          ·exact q y (sub b y hoc)
         ·exact v y hoc
        ·rw[I,FW,N,H a,H b];have:=Si (a:=a.args) (b:=b.args);omega
       ·exact stop 5 s (by unfold Bp; rw[Am h1,Am h2,Am h3,Am F])
theorem Yb (l:List Pr) (h:As (AL l)=0):∃n r,AZ false n [] l=some r:=by
 refine Ya ((Aw (An [] (AL l))).map (·.name)) _ _ [] l Kc h (λy _ hoc=>?_) (Ag _) (Ag _);obtain⟨k,hk,e⟩:=hoc;exact Cv.2 ⟨k,hk,e⟩
def Aj (h:List (ByteArray×Tm)):List Bd:=h.foldl (λs p=>CD s p.1 p.2) []
theorem Ff (h:List (ByteArray×Tm)) (p:ByteArray×Tm):Aj (h++[p])=CD (Aj h) p.1 p.2:=by simp[Aj]
theorem NX {h:List (ByteArray×Tm)} {j:Nat} (a:j<h.length):Aj (h.take (j+1))=CD (Aj (h.take j)) h[j].1 h[j].2:=by
 rw[CB a,Ff]
def Gk (s:List Bd) (x:ByteArray) (t:Tm):Prop:=Av x=true/\(∀d∈s,d.nm≠x)/\As [t]=0/\(∀e∈s,¬Ax e.nm [t])/\¬Ax x [t]
def Ci (h:List (ByteArray×Tm)):Prop:=∀j (hj:j<h.length),Gk (Aj (h.take j)) h[j].1 h[j].2
theorem Yc:Ci []:=λj a=>by simp at a
theorem Ci.snoc {h:List (ByteArray×Tm)} (g:Ci h) {x:ByteArray} {t:Tm} (m:Gk (Aj h) x t):Ci (h++[(x,t)]):=by
 intro j a;by_cases e:j<h.length
 ·have h1:=g j e;rw[JN (by omega)];rw[KJ e];exact h1
 ·have e2:j=h.length:=by simp at a; omega
  subst e2;rw[JN (by omega),GM];simpa using m
theorem Ci.ok {h:List (ByteArray×Tm)} (g:Ci h):∀j,j<=h.length->Ce (Aj (h.take j))
 |0,_=>by simpa [Aj] using Kc
 |j+1,hj=>by
  rw[NX (by omega)];obtain⟨m1,m2,m3,m4,m5⟩:=g j (by omega);exact(g.ok j (by omega)).add m1 m2 m3 m4 m5
theorem Ci.all {h:List (ByteArray×Tm)} (g:Ci h):Ce (Aj h):=by
 have:=g.ok h.length (Ag _);rwa [GM] at this
theorem Ci.absorb {h:List (ByteArray×Tm)} (g:Ci h) {i:Nat}:∀j,i<=j->j<=h.length->∀L:List Tm,As L=0->An (Aj (h.take j)) (An (Aj (h.take i)) L)=An (Aj (h.take j)) L
 |0,hi,_,L,he=>by
  have e:i=0:=by omega
  subst e;exact(g.ok 0 (Bm _)).idem he
 |j+1,hi,b,L,he=>by
  by_cases e:i=j+1
  ·subst e;exact(g.ok _ b).idem he
  ·have d:=g.absorb (i:=i) j (by omega) (by omega) L he;have c:=g.ok j (by omega);have a:=g.ok (j+1) b;have f:j<h.length:=(by omega);obtain⟨m1,m2,_⟩:=g j f;rw[NX (h:=h) (j:=j) (by omega)]at a ⊢;rw[Jb c m1 m2 a _ (Ix (g.ok i (by omega)) L he),Jb c m1 m2 a L he,d]
theorem Ci.bound {h:List (ByteArray×Tm)} (g:Ci h):∀j,j<=h.length->∀y,(∃d∈Aj (h.take j),d.nm=y)↔∃i,∃hi:i<h.length,i<j/\h[i].1=y
 |0,_,y=>by simp[Aj]
 |j+1,hj,y=>by
  have a:=g.bound j (by omega) y;rw[NX (by omega)];have hp:=EL ((Aj (h.take j)).map (BD h[j].1 h[j].2)++[⟨h[j].1,h[j].2⟩]);constructor
  ·rintro⟨d,hd,e⟩;rcases BJ.1 (hp.subset hd) with hd|hd
   ·obtain⟨d0,h0,rfl⟩:=Cv.1 hd;obtain⟨i,hi,h1,h2⟩:=a.1 ⟨d0,h0,e⟩;exact⟨i,hi,by omega,h2⟩
   ·have e2:d=⟨h[j].1,h[j].2⟩:=(by simpa using hd);rw[e2]at e;exact⟨j,by omega,by omega,e⟩
  ·rintro⟨i,hi,h1,h2⟩;by_cases e:i=j
   ·subst e;exact⟨⟨h[i].1,h[i].2⟩,hp.symm.subset (by simp),h2⟩
   ·obtain⟨d0,h0,b⟩:=a.2 ⟨i,hi,by omega,h2⟩;exact⟨BD h[j].1 h[j].2 d0,hp.symm.subset (BJ.2 (Ad (Cv.2 ⟨d0,h0,rfl⟩))),b⟩
theorem Ci.once {h:List (ByteArray×Tm)} (g:Ci h) {i j:Nat} (hi:i<h.length) (c:j<h.length) (e:h[i].1=h[j].1):i=j:=by
 have key:∀a b (f:a<h.length) (hb:b<h.length),a<b->h[a].1≠h[b].1:=λa b f hb k e=>by
  obtain⟨d,hd,e1⟩:=(g.bound b (by omega) h[a].1).2 ⟨a,f,k,rfl⟩;exact(g b hb).2.1 d hd (e1.trans e)
 rcases Nat.lt_trichotomy i j with h1|h1|h1
 ·exact absurd e (key i j hi c h1)
 ·exact h1
 ·exact absurd e.symm (key j i c hi h1)
def stood (h:List (ByteArray×Tm)) (i j:Nat) (hi:i<h.length):Tm:=Af (Aj (h.take j)) ⟨h[i].1,[]⟩
theorem Yd {h:List (ByteArray×Tm)} (g:Ci h) {i j:Nat} (a:i<=j) (b:j<=h.length) {t:Tm} (he:As [t]=0):Af (Aj (h.take j)) (Af (Aj (h.take i)) t)=Af (Aj (h.take j)) t:=by
 have h1:=g.absorb j a b [t] he;rw[Br,Br,Br]at h1;simpa [An] using h1
theorem Sk {h:List (ByteArray×Tm)} (g:Ci h) {i j:Nat} (hi:i<h.length) (a:j<=h.length) (b:ET h[i].1=true):Af (Aj h) (stood h i j hi)=stood h i h.length hi:=by
 have h1:=Yd g a (Ag _) (LN b);unfold stood;rw[GM]at h1 ⊢;exact h1
theorem Ye {h:List (ByteArray×Tm)} (g:Ci h) {i j k:Nat} (hi:i<h.length) (a:j<=h.length) (b:ET h[i].1=true) (hk:k<h.length) (ho:Ax h[k].1 [stood h i j hi]):j<=k:=by
 rcases Nat.lt_or_ge k j with h1|h1
 ·obtain⟨d,hd,e⟩:=(g.bound j a h[k].1).2 ⟨k,hk,h1,rfl⟩;have h2:=(g.ok j a).goneT (LN b) d hd;rw[e]at h2;exact absurd ho h2
 ·exact h1
def Gl (lk:ByteArray->Option Tm) (s:ByteArray) (bs:List Tm):Tm:=if Av s=true then (match lk s with|some x=>x|none=>⟨s,bs⟩) else ⟨s,bs⟩
def Dg (lk:ByteArray->Option Tm):List Tm->List Tm
 | []=>[]
 | ⟨s,a⟩::r=>Gl lk s (Dg lk a)::Dg lk r
def Do (lk:ByteArray->Option Tm) (t:Tm):Tm:=Gl lk t.name (Dg lk t.args)
theorem Mp (b:ByteArray->Option Tm):∀l:List Tm,Dg b l=l.map (Do b)
 | []=>by simp[Dg]
 | ⟨s,a⟩::r=>by rw[Dg,Mp b r]; rfl
theorem Sm (c:ByteArray->Option Tm) (a b:List Tm):Dg c (a++b)=Dg c a++Dg c b:=by simp[Mp]
abbrev Ev:=Bool->(Nat->Prop)->World->Prop
structure Gm (E:Ev) (Mt:Nat->Prop):Prop where
 keep:∀f Y w w',E f Y w->(∀b,Y b->w'.heap[b]? = w.heap[b]?)->E f Y w'
 inY:∀f Y w,E f Y w->∀b,Y b->b<w.heap.size
 mt:∀f Y w,E f Y w->∀b,Mt b->Y b
theorem Gm.below {E:Ev} {Mt:Nat->Prop} (h:Gm E Mt) {f:Bool} {Y:Nat->Prop} {w w':World} (he:E f Y w) (hb:Below w.heap.size w w'):E f Y w':=h.keep f Y w w' he λb hy=>hb.block b (h.inY f Y w he b hy)
def sV (S:Nat):Value:=.func (.func 147) #[zC S] #[]
def Sn (E:Ev) (Mt:Nat->Prop) (o:Option Tm) (f:Bool) (Y:Nat->Prop) (w:World) (e:Ending) (w':World):Prop:=
 ∃(s:ByteArray) (a:Option Addr) (n c:Nat) (ok:Bool) (f':Bool) (Y':Nat->Prop),e=.returned (.tuple #[.agg #[.string s,.slice a n c],.bool ok])/\E f' Y' w'/\(∀b,Y' b->Y b∨w.heap.size<=b)/\(f=true->f'=true)/\Ak Mt w w'/\
  ((ok=true/\∃x:Tm,s=x.name/\n=x.args.length/\Sl w' Y' a x.args/\(f'=false->o=some x))∨(ok=false/\(f'=false->o=none)))
def GD (E:Ev) (Mt:Nat->Prop) (S:Nat) (o:Option Tm) (nm:ByteArray):Prop:=
 ∀(f:Bool) (Y:Nat->Prop) (w:World),E f Y w->Calls prog 147 #[zC S,.string nm] w λe w'=>Sn E Mt o f Y w e w'
def IM (w:World) (tgt:Tm) (n:Nat) (f':Bool) (s':ByteArray) (a':Option Addr) (l':Nat) (m:Int) (k:Nat) (w':World):Prop:=
 (∃y:Tm,s'=y.name/\l'=y.args.length/\m=(n:Int)-Ah [y]/\Ah [y]<=n/\Sl w' (λb=>w.heap.size+k<=b) a' y.args/\(f'=false->y=tgt))∨(m=-1/\(f'=false->n<Ah [tgt]))
def Hd (E:Ev) (Mt:Nat->Prop) (F:Nat) (sv:Value) (tgt:Tm) (n:Nat) (f:Bool) (Y:Nat->Prop) (w:World) (e:Ending) (w':World):Prop:=
 ∃(s':ByteArray) (a':Option Addr) (l' c':Nat) (m:Int) (f':Bool) (Y':Nat->Prop),e=.returned (.agg #[.string s',.slice a' l' c'])/\Ab w' F #[zA m,sv] 144/\Ak (λb=>b=F∨Mt b) w w'/\E f' Y' w'/\(∀b,Y' b->Y b∨w.heap.size<=b)/\(f=true->f'=true)/\IM w tgt n f' s' a' l' m 0 w'
theorem Jt {E:Ev} {Mt:Nat->Prop} (k:Gm E Mt) {w a:World} {F:Nat} {g:Value} {i:Tm} {n:Nat} {f f':Bool} {Y c:Nat->Prop} {s':ByteArray} {d:Option Addr} {l' c':Nat} {m:Int} {v0 v1:Value} (hF:F<w.heap.size) (l:∀b,Y b->b<w.heap.size)
  (h1:Ab a F #[zA m,g] 144) (hx:Ak (λb=>b=F∨Mt b) w a) (o:E f' c a) (j:∀b,c b->Y b∨w.heap.size+2<=b) (q:f=true->f'=true) (hc:IM w i n f' s' d l' m 2 a):
  Hd E Mt F g i n f Y w (.returned (.agg #[.string s',.slice d l' c'])) ((a.setCell (zD (w.heap.size+1) 0) v0).setCell (zD (w.heap.size+1) 1) v1):=by
 have hk:∀b,b≠w.heap.size+1->((a.setCell (zD (w.heap.size+1) 0) v0).setCell (zD (w.heap.size+1) 1) v1).heap[b]? = a.heap[b]? := λb hb=>by
  rw[Al _ _ _ _ (by simpa using hb),Al _ _ _ _ (by simpa using hb)]
 refine⟨s',d,l',c',m,f',c,rfl,(h1.setOther _ _ (by omega)).setOther _ _ (by omega),(hx.setNew (by omega) _ _).setNew (by omega) _ _,k.keep _ _ _ _ o λb hb=>hk b λe=>?_,λb hb=>?_,q,?_⟩
 ·rcases j b hb with h|h
  ·have:=l b h; omega
  ·omega
 ·rcases j b hb with h|h
  ·exact Ad h
  ·exact Ae (by omega)
 ·rcases hc with ⟨y,e1,e2,e3,r,e5,s⟩|hc
  ·exact Ad ⟨y,e1,e2,e3,r,(e5.kept λb hb=>hk b (by omega)).mono λb hb _=>by omega,s⟩
  ·exact Ae hc
theorem Yf {Q:Nat->Prop} {a w1:World} (h:Ak Q a.drew w1):Ak Q a w1:=((Ak.refl Q a).drew).trans h
theorem Yg {Q:Nat->Prop} {a w1:World} {o:Obj} (h:Ak Q (a.alloc o).drew w1):Ak Q a w1:=(((Ak.refl Q a).alloc o).drew).trans h
theorem Yh {Q:Nat->Prop} {a w1:World} {cs:Array Value} {T:Nat} (h:Ak Q (a.alloc (.cells cs T)).drew w1) (b:¬Q a.heap.size):Ab w1 a.heap.size cs T:=((Ab.new a cs T).drewN 1).exq h b
theorem Sp {E:Ev} {Mt:Nat->Prop} (k:Gm E Mt) (F S:Nat) (q:ByteArray->Option Tm) (t:Tm) (n:Nat) (a:Option Addr) (c:Nat) (w:World) (X Y:Nat->Prop) (f:Bool) (hn:n<=1000000) (aW:∀b,X b->b≠F/\¬Mt b) (aL:¬Y F) (hs:Sl w X a t.args) (hF:Ab w F #[zA n,sV S] 144) (aM:E f Y w)
  (hL:Av t.name=true->GD E Mt S (q t.name) t.name)
  (h:∀(w':World) (f':Bool) (U:Nat->Prop),Sl w' X a t.args->Ab w' F #[zA n,sV S] 144->E f' U w'->¬U F->Calls prog 122 #[zC F,.agg (zG t a c),.func (.func 107) #[zC F] #[]] w' λe aO=>Hd E Mt F (sV S) ⟨t.name,Dg q t.args⟩ n f' U w' e aO):
  Calls prog 107 #[zC F,.agg (zG t a c)] w λe w'=>Hd E Mt F (sV S) (Do q t) n f Y w e w':=by
 have bc:=@hmq prog;have H:=Aa h;have HS:=Aa hs;have HF:=Aa hF;have HE:=Aa aM;have HL:=Aa hL;have aX:=Aa aW;have bd:F<w.heap.size:=hF.lt;have B:Hid (∀b,Y b->b<w.heap.size):=k.inY _ _ _ aM;have aA:Hid (∀b,Mt b->Y b):=k.mt _ _ _ aM;have aP:¬Mt F:=λh=>aL (aA.o F h);clear h hs hF aM hL aW;have aN:=Aa (((Ac w.heap.size w).alloc (Ag _) (.cells (zG t a c) 61)).alloc (by simp) (.cells #[.string ⟨#[]⟩,zB] 61));have f1:∀o o',((w.alloc o).alloc o').cell? (zD F 1)=some (sV S):=λo o'=>((HF.o.alloc o).alloc o').cell 1;have RW:Hid (Ab ((w.alloc (.cells (zG t a c) 61)).alloc (.cells #[.string ⟨#[]⟩,zB] 61)) (w.heap.size+1) #[.string ⟨#[]⟩,zB] 61):=Aa (by have h:=Ab.new (w.alloc (.cells (zG t a c) 61)) #[.string ⟨#[]⟩,zB] 61;simpa using h);have aC:=Aa (((Ak.refl (λb=>b=F∨Mt b) w).alloc (.cells (zG t a c) 61)).alloc (.cells #[.string ⟨#[]⟩,zB] 61));have J:Hid (((w.alloc (.cells (zG t a c) 61)).alloc (.cells #[.string ⟨#[]⟩,zB] 61)).heap.size=w.heap.size+2):=Aa (by simp);have aD:¬(w.heap.size+1=F∨Mt (w.heap.size+1)):=λh=>by
  rcases h with h|h
  ·omega
  ·have:=B.o _ (aA.o _ h); omega
 cases hv:Av t.name with
 |false=>
  have L:=Aa hv;have HT:Hid (Do q t=⟨t.name,Dg q t.args⟩):=Aa (by unfold Do Gl;rw[hv];rfl);clear hv;go_enter func107,ntmps107;go_wp2_with (go_at_call 109; refine(DO _ _).mono ?_; rintro e w' ⟨rfl,rfl⟩; rw[L.o]);refine(H.o _ f Y (HS.o.later aN.o) (by exact(HF.o.alloc _).alloc _) (k.below HE.o aN.o) aL).mono ?_;rintro e r ⟨s',u,l',c',m,f',U,rfl,s,d,C,D,z,G⟩;have j:=Aa (RW.o.exq d aD);have M:=Aa (aC.o.trans d);have ar:=Aa s;have N:=Aa C;have aQ:=Aa D;have aY:=Aa z;have HC:=Aa G;clear s d C D z G;have O:=j.o.c0;have P:=j.o.c1;have rf:=j.o.frozen;go_wp2_with fail;refine Ao (v:=.agg #[.string s',.slice u l' c']) (by simp[results,results107,go_sem,AK,AB,O,P]) rfl ?_;rw[HT.o];refine Jt k (by omega) B.o ar.o M.o N.o (λb hb=>(aQ.o b hb).imp id λh=>by rw[J.o] at h; exact h) aY.o ?_;rcases HC.o with ⟨y,e1,e2,e3,R,e5,e6⟩|h
  ·exact Ad ⟨y,e1,e2,e3,R,e5.mono λb hb _=>by have:=J.o; omega,e6⟩
  ·exact Ae h
 |true=>
  have L:=Aa hv;have aZ:=Aa (HL.o hv);clear hv HL;have E0:=Aa (k.below HE.o aN.o);have F0:=Aa ((HF.o.alloc (.cells (zG t a c) 61)).alloc (.cells #[.string ⟨#[]⟩,zB] 61));have S0:=Aa (HS.o.later aN.o);have T0:=Aa ((Ab.new w (zG t a c) 61).alloc (.cells #[.string ⟨#[]⟩,zB] 61));have g1:=F0.o.cell 1;have g0:=T0.o.cell 0;simp only[BP,BQ,BR] at g1 g0;have ba:Hid (∀w',Below ((w.alloc (.cells (zG t a c) 61)).alloc (.cells #[.string ⟨#[]⟩,zB] 61)).heap.size ((w.alloc (.cells (zG t a c) 61)).alloc (.cells #[.string ⟨#[]⟩,zB] 61)) w'->Calls prog 147 #[zC S,.string t.name] w' λe aO=>Sn E Mt (q t.name) f Y w' e aO):=λw' hb=>aZ.o f Y w' (k.below E0.o hb);have aR:Hid (∀w',Ak Mt ((w.alloc (.cells (zG t a c) 61)).alloc (.cells #[.string ⟨#[]⟩,zB] 61)) w'->w'.cell? (zD F 1)=some (sV S)/\w'.cell? (zD w.heap.size 0)=some (.string t.name)):=λw' hb=>⟨(F0.o.exq hb aP).cell 1,(T0.o.exq hb (λh=>by have:=B.o _ (aA.o _ h); omega)).cell 0⟩;have nF:((w.alloc (.cells (zG t a c) 61)).alloc (.cells #[.string ⟨#[]⟩,zB] 61)).heap.size≠F:=by have:=J.o; omega
  have nT:((w.alloc (.cells (zG t a c) 61)).alloc (.cells #[.string ⟨#[]⟩,zB] 61)).heap.size≠w.heap.size:=by have:=J.o; omega
  have nM:¬Mt ((w.alloc (.cells (zG t a c) 61)).alloc (.cells #[.string ⟨#[]⟩,zB] 61)).heap.size:=λh=>by have:=B.o _ (aA.o _ h); have:=J.o; omega
  clear f1;unfold sV at g1 aR;go_enter func107,ntmps107;go_wp2_with (go_at_call 109; refine(DO _ _).mono ?_; rintro e w' ⟨rfl,rfl⟩; rw[L.o]);generalize ((w.alloc (.cells (zG t a c) 61)).alloc (.cells #[.string ⟨#[]⟩,zB] 61))=V at *;go_region_held3 (λw'=>w'.cell? (zD F 1)=some (.func (.func 147) #[zC S] #[])/\w'.cell? (zD w.heap.size 0)=some (.string t.name)) (first|exact hS|exact⟨g1,g0⟩|exact GS hS nF nT|exact GS (GS hS nF nT) nF nT|go_keep)
   ((go_at_call 147; refine(ba.o _ (by first|exact(Ac _ _).drew|exact((Ac _ _).alloc (Ag _) _).drew)).mono ?_; rintro e w1 ⟨s1,W,n1,c1,bf,f1,l,rfl,C,D,z,d,G⟩; have aS:=Aa C; have al:=Aa D; have av:=Aa z; have aB:=Aa G; clear C D z G; (first|(have Z:=Yf d; have hS:=aR.o _ Z)|(have Z:=Yg d; have xb:=Aa (Yh d nM); have x0:=xb.o.cell 0; have x1:=xb.o.cell 1; have xf:=xb.o.frozen; have hS:=aR.o _ Z)); have bg:=Aa d; clear d))
  ·generalize hz:(w1.alloc (Obj.cells #[Value.string s1,Value.slice W n1 c1] 61))=i at *;have bb:∀b,b<w1.heap.size->i.heap[b]? = w1.heap[b]? := λb hb=>by rw[<-hz]; exact BH _ _ _ hb
   have A:Ak Mt V i:=by rw[<-hz]; exact Z.alloc _
   have aE:Hid (∀b,l b->i.heap[b]? = w1.heap[b]?):=λb hb=>bb b (k.inY _ _ _ aS.o b hb);have ay:Hid (∀b,l b->Y b∨w.heap.size+2<=b):=λb hb=>(al.o b hb).imp id λh=>by have h2:=J.o; have h3:V.heap.size<=b:=h; omega
   have q0:i.cell? (zD w1.heap.size 0)=some (.string s1):=by rw[<-hz]; exact(Ab.new w1 _ _).cell 0
   have q1:i.cell? (zD w1.heap.size 1)=some (.slice W n1 c1):=by rw[<-hz]; exact(Ab.new w1 _ _).cell 1
   have az:=Aa A;have a6:Hid (E f1 l i):=k.keep _ _ _ _ aS.o aE.o;have aF:=Aa (F0.o.exq A aP);have aG:=Aa (RW.o.exq A (λh=>aD (Ae h)));have aH:=Aa (T0.o.exq A (λh=>by have:=B.o _ (aA.o _ h); omega));have ae:Hid (¬l F):=λh=>by
    rcases ay.o F h with h1|h1
    ·exact aL h1
    ·omega
   have af:Hid (w.heap.size+2<=i.heap.size):=Aa (by have:=A.size;have:=J.o;omega);clear A hz hS Z;rcases aB.o with ⟨rfl,x,rfl,rfl,aI,I⟩|⟨rfl,I⟩
   ·have aT:Hid (Sl i l W x.args):=aI.kept aE.o;have T:=Aa I;clear aI I aB;go_wp2_with fail;refine(LK F _ x n _ i l ⟨W,c1,rfl,aT.o⟩ (λb hb e=>ae.o (e▸hb)) hn aF.o).mono ?_;rintro e r ⟨s',u,l',c',m,rfl,s,d,aJ,aK⟩;have j:=Aa (aG.o.ex d (by omega));have M:Hid (Ak (λb=>b=F∨Mt b) w r):=(aC.o.trans (az.o.mono λb hb _=>Ae hb)).trans (Ak.ofEx d (Ad rfl));have N:Hid (E f1 l r):=k.keep _ _ _ _ a6.o λb hb=>d.block b (k.inY _ _ _ a6.o b hb) (λe=>ae.o (e▸hb));have ar:=Aa s;have a7:Hid (IM w (Do q t) n f1 s' u l' m 2 r):=by
     by_cases hle:Ah [x]<=n
     ·obtain⟨e1,e2,e3,R⟩:=aJ hle;exact Ad ⟨x,e2,e3,e1,hle,R.mono λb hb _=>by have:=af.o; omega,λg=>by unfold Do Gl; rw[L.o,T.o g]; rfl⟩
     ·exact Ae ⟨aK (by omega),λg=>by unfold Do Gl; rw[L.o,T.o g]; simpa using hle⟩
    clear s d aJ aK;have O:=j.o.c0;have P:=j.o.c1;have rf:=j.o.frozen;go_wp2_with fail;refine Ao (v:=.agg #[.string s',.slice u l' c']) (by simp[results,results107,go_sem,AK,AB,O,P]) rfl ?_;exact Jt k (by omega) B.o ar.o M.o N.o ay.o av.o a7.o
   ·have T:=Aa I;clear I aB;have t0:=aH.o.c0;have t1:=aH.o.c1;go_wp2_with fail;refine(H.o i f1 l (S0.o.exq az.o (λb hb=>(aX.o b hb).2)) aF.o a6.o ae.o).mono ?_;rintro e r ⟨s',u,l',c',m,f',U,rfl,s,d,C,D,z,G⟩;have j:=Aa (aG.o.exq d aD);have M:Hid (Ak (λb=>b=F∨Mt b) w r):=(aC.o.trans (az.o.mono λb hb _=>Ae hb)).trans d;have N:=Aa C;have ar:=Aa s;have aU:Hid (∀b,U b->Y b∨w.heap.size+2<=b):=λb hb=>by
     rcases D b hb with h|h
     ·exact ay.o b h
     ·right; have:=af.o; omega
    have a8:Hid (f=true->f'=true):=λh=>z (av.o h);have a7:Hid (IM w (Do q t) n f' s' u l' m 2 r):=by
     have hT:f'=false->Do q t=⟨t.name,Dg q t.args⟩:=λg=>by
      have aV:f1=false:=by
       cases h:f1 with
       |false=>rfl
       |true=>have:=z h; rw[g] at this; cases this
      unfold Do Gl; rw[L.o,T.o aV]; rfl
     rcases G with ⟨y,e1,e2,e3,R,e5,e6⟩|⟨e1,e2⟩
     ·exact Ad ⟨y,e1,e2,e3,R,e5.mono λb hb _=>by have:=af.o; omega,λg=>by rw[hT g]; exact e6 g⟩
     ·exact Ae ⟨e1,λg=>by rw[hT g]; exact e2 g⟩
    clear s d C D z G;have O:=j.o.c0;have P:=j.o.c1;have rf:=j.o.frozen;go_wp2_with fail;refine Ao (v:=.agg #[.string s',.slice u l' c']) (by simp[results,results107,go_sem,AK,AB,O,P]) rfl ?_;exact Jt k (by omega) B.o ar.o M.o N.o aU.o a8.o a7.o
  ·generalize hz:((w1.setCell { block:=V.heap.size,off:=0} (Value.string s1)).setCell { block:=V.heap.size,off:=1} (Value.slice W n1 c1))=i at *;have A:Ak Mt V i:=by rw[<-hz]; exact(Z.setNew (Ag _) _ _).setNew (Ag _) _ _
   have ay:Hid (∀b,l b->Y b∨w.heap.size+2<=b):=λb hb=>(al.o b hb).imp id λh=>by have h2:=J.o; simp at h; omega
   have aE:Hid (∀b,l b->i.heap[b]? = w1.heap[b]?):=λb hb=>by
    have hne:b≠V.heap.size:=λe=>by
     rcases al.o b hb with h|h
     ·have:=B.o b h; have:=J.o; omega
     ·simp at h; omega
    rw[<-hz,Al _ _ _ _ (by simpa using hne),Al _ _ _ _ (by simpa using hne)]
   have q0:i.cell? (zD V.heap.size 0)=some (.string s1):=by rw[<-hz]; simp[AK,AB,x0,x1]
   have q1:i.cell? (zD V.heap.size 1)=some (.slice W n1 c1):=by rw[<-hz]; simp[AK,AB,x0,x1]
   have az:=Aa A;have a6:Hid (E f1 l i):=k.keep _ _ _ _ aS.o aE.o;have aF:=Aa (F0.o.exq A aP);have aG:=Aa (RW.o.exq A (λh=>aD (Ae h)));have aH:=Aa (T0.o.exq A (λh=>by have:=B.o _ (aA.o _ h); omega));have ae:Hid (¬l F):=λh=>by
    rcases ay.o F h with h1|h1
    ·exact aL h1
    ·omega
   have af:Hid (w.heap.size+2<=i.heap.size):=Aa (by have:=A.size;have:=J.o;omega);clear A hz hS Z;rcases aB.o with ⟨rfl,x,rfl,rfl,aI,I⟩|⟨rfl,I⟩
   ·have aT:Hid (Sl i l W x.args):=aI.kept aE.o;have T:=Aa I;clear aI I aB;go_wp2_with fail;refine(LK F _ x n _ i l ⟨W,c1,rfl,aT.o⟩ (λb hb e=>ae.o (e▸hb)) hn aF.o).mono ?_;rintro e r ⟨s',u,l',c',m,rfl,s,d,aJ,aK⟩;have j:=Aa (aG.o.ex d (by omega));have M:Hid (Ak (λb=>b=F∨Mt b) w r):=(aC.o.trans (az.o.mono λb hb _=>Ae hb)).trans (Ak.ofEx d (Ad rfl));have N:Hid (E f1 l r):=k.keep _ _ _ _ a6.o λb hb=>d.block b (k.inY _ _ _ a6.o b hb) (λe=>ae.o (e▸hb));have ar:=Aa s;have a7:Hid (IM w (Do q t) n f1 s' u l' m 2 r):=by
     by_cases hle:Ah [x]<=n
     ·obtain⟨e1,e2,e3,R⟩:=aJ hle;exact Ad ⟨x,e2,e3,e1,hle,R.mono λb hb _=>by have:=af.o; omega,λg=>by unfold Do Gl; rw[L.o,T.o g]; rfl⟩
     ·exact Ae ⟨aK (by omega),λg=>by unfold Do Gl; rw[L.o,T.o g]; simpa using hle⟩
    clear s d aJ aK;have O:=j.o.c0;have P:=j.o.c1;have rf:=j.o.frozen;go_wp2_with fail;refine Ao (v:=.agg #[.string s',.slice u l' c']) (by simp[results,results107,go_sem,AK,AB,O,P]) rfl ?_;exact Jt k (by omega) B.o ar.o M.o N.o ay.o av.o a7.o
   ·have T:=Aa I;clear I aB;have t0:=aH.o.c0;have t1:=aH.o.c1;go_wp2_with fail;refine(H.o i f1 l (S0.o.exq az.o (λb hb=>(aX.o b hb).2)) aF.o a6.o ae.o).mono ?_;rintro e r ⟨s',u,l',c',m,f',U,rfl,s,d,C,D,z,G⟩;have j:=Aa (aG.o.exq d aD);have M:Hid (Ak (λb=>b=F∨Mt b) w r):=(aC.o.trans (az.o.mono λb hb _=>Ae hb)).trans d;have N:=Aa C;have ar:=Aa s;have aU:Hid (∀b,U b->Y b∨w.heap.size+2<=b):=λb hb=>by
     rcases D b hb with h|h
     ·exact ay.o b h
     ·right; have:=af.o; omega
    have a8:Hid (f=true->f'=true):=λh=>z (av.o h);have a7:Hid (IM w (Do q t) n f' s' u l' m 2 r):=by
     have hT:f'=false->Do q t=⟨t.name,Dg q t.args⟩:=λg=>by
      have aV:f1=false:=by
       cases h:f1 with
       |false=>rfl
       |true=>have:=z h; rw[g] at this; cases this
      unfold Do Gl; rw[L.o,T.o aV]; rfl
     rcases G with ⟨y,e1,e2,e3,R,e5,e6⟩|⟨e1,e2⟩
     ·exact Ad ⟨y,e1,e2,e3,R,e5.mono λb hb _=>by have:=af.o; omega,λg=>by rw[hT g]; exact e6 g⟩
     ·exact Ae ⟨e1,λg=>by rw[hT g]; exact e2 g⟩
    clear s d C D z G;have O:=j.o.c0;have P:=j.o.c1;have rf:=j.o.frozen;go_wp2_with fail;refine Ao (v:=.agg #[.string s',.slice u l' c']) (by simp[results,results107,go_sem,AK,AB,O,P]) rfl ?_;exact Jt k (by omega) B.o ar.o M.o N.o aU.o a8.o a7.o
theorem Yi {s:List Bd} (b:∀d∈s,Av d.nm=true):∀l:List Tm,As l=0->Dg (AC s) l=An s l:=by
 intro l;induction l using Tm.indL with
 |h0=>intro _; simp[Dg,An]
 |h n l r c f=>
  intro he;obtain⟨g1,g2,g3⟩:=Gy he;rw[Dg,Br,f g3,c g2];congr 1
  cases a:Av n with
  |false=>rw[EM b a,Gl,a]; rfl
  |true=>
   have e:=g1 a;subst e;rw[Fz,Gl,a];cases AC s n with
   |none=>simp[An]
   |some x=>rfl
theorem Sq {s:List Bd} (a:∀d∈s,Av d.nm=true) {t:Tm} (he:As [t]=0):Do (AC s) t=Af s t:=by
 have h:=Yi a [t] he;rw[Mp,Br]at h;simpa [An] using h
def Gn (h:List (ByteArray×Tm)):Prop:=∀i (hi:i<h.length),ET h[i].1=true
def Qb (w:World) (Y:Nat->Prop) (h:List (ByteArray×Tm)) (i:Nat) (hi:i<h.length) (v:Value):Prop:=
 ∃(j:Nat) (a:Option Addr) (c:Nat),j<=h.length/\v=.agg #[.string (stood h i (max j (i+1)) hi).name,.slice a (stood h i (max j (i+1)) hi).args.length c,zA j]/\Sl w Y a (stood h i (max j (i+1)) hi).args
def Eu (w:World) (Y:Nat->Prop) (h:List (ByteArray×Tm)) (L:List (ByteArray×Value)):Prop:=
 L.length=h.length/\∀i (hi:i<h.length) (hl:i<L.length),L[i].1=h[i].1/\Qb w Y h i hi L[i].2
theorem Qb.imp {w w':World} {Y Z:Nat->Prop} {h:List (ByteArray×Tm)} {i:Nat} {hi:i<h.length} {v:Value} (b:∀a l,Sl w Y a l->Sl w' Z a l) (e:Qb w Y h i hi v):Qb w' Z h i hi v:=by
 obtain⟨j,a,c,h1,h2,h3⟩:=e;exact⟨j,a,c,h1,h2,b _ _ h3⟩
theorem Eu.imp {w w':World} {Y Z:Nat->Prop} {h:List (ByteArray×Tm)} {L:List (ByteArray×Value)} (c:∀a l,Sl w Y a l->Sl w' Z a l) (e:Eu w Y h L):Eu w' Z h L:=
 ⟨e.1,λi hi b=>⟨(e.2 i hi b).1,(e.2 i hi b).2.imp c⟩⟩
theorem Sr:∀(L:List (ByteArray×Value)) (i:Nat) (hi:i<L.length),(∀k (hk:k<L.length),k<i->L[k].1≠L[i].1)->BG L L[i].1=some L[i].2
 | [],i,hi,_=>by simp at hi
 |p::r,0,hi,_=>by simp[BG]
 |p::r,i+1,hi,h=>by
  have h0:=h 0 (by simp) (by omega);simp only[Q6,Fg] at h0 ⊢;rw[BG,Am h0];refine Sr r i (by simpa using hi) λk hk aa=>?_;have:=h (k+1) (by simpa using hk) (by omega);simpa using this
theorem Ss:∀(L:List (ByteArray×Value)) (n:ByteArray),(∀k (hk:k<L.length),L[k].1≠n)->BG L n=none
 | [],n,_=>rfl
 |p::r,n,h=>by
  have h0:=h 0 (by simp);simp only[Q6] at h0;rw[BG,Am h0];exact Ss r n λk hk=>by have:=h (k+1) (by simpa using hk); simpa using this
theorem St:∀(L:List (ByteArray×Value)) (i:Nat) (hi:i<L.length) (v:Value),(∀k (hk:k<L.length),k<i->L[k].1≠L[i].1)->GU L L[i].1 v=L.set i (L[i].1,v)
 | [],i,hi,v,_=>by simp at hi
 |p::r,0,hi,v,_=>by simp[GU]
 |p::r,i+1,hi,v,h=>by
  have h0:=h 0 (by simp) (by omega);simp only[Q6,Fg] at h0 ⊢;rw[GU,Am h0,St r i (by simpa using hi) v λk hk aa=>by have:=h (k+1) (by simpa using hk) (by omega); simpa using this];rfl
theorem Eu.apart {w:World} {Y:Nat->Prop} {h:List (ByteArray×Tm)} {L:List (ByteArray×Value)} (e:Eu w Y h L) (g:Ci h) (i:Nat) (hi:i<L.length):∀k (hk:k<L.length),k<i->L[k].1≠L[i].1:=λk hk aa a=>by
 have hl:=e.1;rw[(e.2 k (by omega) hk).1,(e.2 i (by omega) hi).1]at a;have:=g.once (by omega) (by omega) a;omega
theorem Eu.get {w:World} {Y:Nat->Prop} {h:List (ByteArray×Tm)} {L:List (ByteArray×Value)} (e:Eu w Y h L) (g:Ci h) {i:Nat} (hi:i<h.length):∃v,BG L h[i].1=some v/\Qb w Y h i hi v:=by
 have a:i<L.length:=by rw[e.1]; exact hi
 have h1:=Sr L i a (e.apart g i a);rw[(e.2 i hi a).1]at h1;exact⟨_,h1,(e.2 i hi a).2⟩
theorem Eu.none {w:World} {Y:Nat->Prop} {h:List (ByteArray×Tm)} {L:List (ByteArray×Value)} (e:Eu w Y h L) {n:ByteArray} (a:∀i (hi:i<h.length),h[i].1≠n):BG L n=none:=
 Ss L n λk hk=>by rw[(e.2 k (by rw[<-e.1]; exact hk) hk).1]; exact a k _
theorem Eu.set {w:World} {Y:Nat->Prop} {h:List (ByteArray×Tm)} {L:List (ByteArray×Value)} (e:Eu w Y h L) (g:Ci h) {i:Nat} (hi:i<h.length) {v:Value} (c:Qb w Y h i hi v):Eu w Y h (GU L h[i].1 v):=by
 have a:i<L.length:=by rw[e.1]; exact hi
 have h1:=St L i a v (e.apart g i a);rw[(e.2 i hi a).1]at h1;rw[h1];refine⟨by simp[e.1],λk hk d=>?_⟩;by_cases b:i=k
 ·subst b;simp only[List.getElem_set_self];exact⟨trivial,c⟩
 ·rw[List.getElem_set_ne b];exact e.2 k hk (by simpa using d)
theorem Ju {h:List (ByteArray×Tm)} (g:Ci h) {i:Nat} (hi:i<h.length):AC (Aj h) h[i].1=some (stood h i h.length hi):=by
 obtain⟨d,hd,e⟩:=(g.bound h.length (Ag _) h[i].1).2 ⟨i,hi,hi,rfl⟩;rw[GM]at hd;obtain⟨t,ht⟩:=Qo hd;rw[e]at ht;rw[ht];unfold stood;rw[GM,Is ht]
theorem Yj {h:List (ByteArray×Tm)} (g:Ci h) {n:ByteArray} (a:∀i (hi:i<h.length),h[i].1≠n):AC (Aj h) n=none:=by
 cases b:AC (Aj h) n with
 |none=>rfl
 |some x=>obtain⟨d,hd,e,_⟩:=Fl b;have h1:=(g.bound h.length (Ag _) n).1 ⟨d,by rw[GM]; exact hd,e⟩;obtain⟨i,hi,_,h2⟩:=h1;exact absurd h2 (a i hi)
theorem Su {h:List (ByteArray×Tm)} (g:Ci h) (a:Gn h) {i:Nat} (hi:i<h.length) {j:Nat} (b:j<=h.length):As [stood h i j hi]=0:=EN (g.ok j b) (LN (a i hi))
theorem Yk {h:List (ByteArray×Tm)} (g:Ci h) (a:Gn h) {i:Nat} (hi:i<h.length) {j:Nat} (b:j<=h.length):Do (AC (Aj h)) (stood h i j hi)=stood h i h.length hi:=by
 rw[Sq g.all.vars (Su g a hi b),Sk g hi b (a i hi)]
theorem Sv {h:List (ByteArray×Tm)} (g:Ci h) {i:Nat} (hi:i<h.length) (hz:2000<Ah [stood h i h.length hi]):AU (Aj h)=true:=by
 obtain⟨d,hd,e1,e2⟩:=Fl (Ju g hi);unfold AU;rw[ER];exact⟨d,hd,by rw[e2]; simpa using hz⟩
def Cp (S q:Nat) (td:Value) (h:List (ByteArray×Tm)):Ev:=λf Y w=>
 (∃L,Ab w S #[td,.map (some q),.bool f] 162/\BC w q L/\Eu w (λb=>Y b/\b≠S/\b≠q) h L)/\Y S/\Y q/\(∀b,Y b->b<w.heap.size)/\(f=true->AU (Aj h)=true)
def Cq (S q:Nat):Nat->Prop:=λb=>b=S∨b=q
theorem Du (S q:Nat) (d:Value) (h:List (ByteArray×Tm)):Gm (Cp S q d h) (Cq S q):=by
 refine⟨λf Y w w' he hk=>?_,λf Y w he=>he.2.2.2.1,λf Y w he b hb=>?_⟩
 ·obtain⟨⟨L,h1,h2,h3⟩,c,h5,h6,e⟩:=he;refine⟨⟨L,?_,h2.kept (hk q h5),h3.imp λa l g=>g.kept λb hb=>hk b hb.1⟩,c,h5,λb hb=>?_,e⟩
  ·unfold Ab at *; rw[hk S c]; exact h1
  ·have h8:=hk b hb;have i:=h6 b hb;apply El;intro hn;rw[Ij (by omega),KH i]at h8;cases h8
 ·rcases hb with rfl|rfl
  ·exact he.2.1
  ·exact he.2.2.1
def Jv (Mt:Nat->Prop) (w:World) (F O:Nat) (s:ByteArray) (u:Value) (cF:Array Value) (wr:World):Prop:=
 Ak (λb=>b=F∨Mt b) w wr/\Ab wr (w.heap.size+1) #[.string ⟨#[]⟩,zB] 61/\Ab wr O #[.string s,u] 61/\Ab wr F cF 144/\O<wr.heap.size
theorem Yl {Mt:Nat->Prop} {w wr w1 w3:World} {F O:Nat} {s:ByteArray} {u v:Value} {j g:Array Value} {a:Obj} (af:F<w.heap.size) (l:∀b,Mt b->b<w.heap.size) (hO:w.heap.size+2<=O) (h:Jv Mt w F O s u j wr) (hu:∀k,u.ownBlock=some k->O+1<=k)
  (d:Ak (λb=>b=F∨Mt b) wr w1) (m:Ab w1 F g 144) (c:(w1.alloc a).grownBy w3 u.ownBlock):Jv Mt w F O s v g (w3.setCell (zD O 1) v):=by
 obtain⟨h1,h2,h3,h4,h5⟩:=h;have f:∀b,b<O+1->some b≠u.ownBlock:=λb hb e=>by have:=hu b e.symm; omega
 have i:∀b,w.heap.size<=b->¬(b=F∨Mt b):=λb hb h=>by
  rcases h with h|h
  ·omega
  ·have:=l b h; omega
 have ag:=d.size;have n:=c.size;simp at n;refine⟨(((h1.trans d).alloc a).grown c (λk hk=>Ad (by have:=hu k hk; omega))).setNew (by omega) _ _,?_,?_,?_,by simp[World.setCell]; omega⟩
 ·exact(((h2.exq d (i _ (by omega))).alloc a).grown c (f _ (by omega))).setOther _ _ (by omega)
 ·exact(((h3.exq d (i _ (by omega))).alloc a).grown c (f _ (by omega))).set 1 _
 ·exact((m.alloc a).grown c (f _ (by omega))).setOther _ _ (by omega)
theorem Ym {Q:Nat->Prop} {wr w1 w3:World} {O:Nat} {u:Value} {L:List Tm} {xs:List Value} {a:Obj} {s':ByteArray} {c:Option Addr} {d c1 g cap:Nat} {t:Tm} (e:∀b,Q b->b<O) (hOr:O<wr.heap.size) (f:Cj wr (O+1) 61 (λ_=>False) u L xs)
  (i:Ak Q wr w1) (ht:TV w1 (λb=>wr.heap.size<=b) (.agg #[.string s',.slice c d c1]) t)
  (j:w3.ownsRow (O+1) 61 2 (.slice (some (zD g 0)) (L.length+1) cap) (L.length+1) (xs++[.string s',.slice c d c1])) (k:(w1.alloc a).grownBy w3 u.ownBlock) (l:u.ownBlock=some g∨g=(w1.alloc a).heap.size):
  Cj (w3.setCell (zD O 1) (.slice (some (zD g 0)) (L.length+1) cap)) (O+1) 61 (λ_=>False) (.slice (some (zD g 0)) (L.length+1) cap) (L++[t]) (xs++[.string s',.slice c d c1]):=by
 obtain⟨wm,m,ai,n⟩:=i.mid;have o:=f.exq n (λb hb=>by have:=e b hb; omega) (λ_ _ h=>h);exact(o.push (w1:=w1) (w2:=w1.alloc a) (w3:=w3) (by omega) (λ_ h=>h.elim) m (ht.mono λb h _=>Ae (by omega)) a rfl j k l).setCell (by omega) (λh=>h) _
def Kn (E:Ev) (O:Nat) (f:Bool) (Y:Nat->Prop) (u:Value) (f':Bool) (Y':Nat->Prop) (wr:World):Prop:=
 E f' Y' wr/\(∀b,Y' b->Y b∨O+1<=b)/\(∀b,Y' b->some b≠u.ownBlock)/\(f=true->f'=true)
def Yn (E:Ev) (Mt:Nat->Prop) (lk:ByteArray->Option Tm) (w:World) (F O:Nat) (s:ByteArray) (sv:Value) (l:List Tm) (n:Nat) (f:Bool) (Y:Nat->Prop) (i:Value) (wr:World):Prop:=
 ∃(k:Nat) (u:Value) (f':Bool) (Y':Nat->Prop),k<=l.length/\i=zA k/\Kn E O f Y u f' Y' wr/\
  ((∃(m:Nat) (xs:List Value) (Mk:List Tm),Mk.length=k/\(m:Int)=(n:Int)-1-Ah Mk/\Jv Mt w F O s u #[zA m,sv] wr/\Cj wr (O+1) 61 (λ_=>False) u Mk xs/\(f'=false->Mk=Dg lk (l.take k)))∨
   (Jv Mt w F O s u #[zA (-1),sv] wr/\(∃a9 l9 c9,u=.slice a9 l9 c9)/\(f'=false->n<1+Ah (Dg lk l))))
theorem Yo {E:Ev} {Mt:Nat->Prop} (c:Gm E Mt) {O:Nat} {f f' f1:Bool} {Y d a:Nat->Prop} {u:Value} {wr w1 w3:World} {i:Obj} {g cap n9:Nat} {x:Value} (q:∀b,Y b->b<O) (h:Kn E O f Y u f' d wr) (hu:∀k,u.ownBlock=some k->k<wr.heap.size) (hOr:O<wr.heap.size) (al:wr.heap.size<=w1.heap.size)
  (j:E f1 a w1) (l:∀b,a b->d b∨wr.heap.size<=b) (r:f'=true->f1=true) (s:(w1.alloc i).grownBy w3 u.ownBlock) (t:u.ownBlock=some g∨g=(w1.alloc i).heap.size):
  Kn E O f Y (.slice (some (zD g 0)) n9 cap) f1 a (w3.setCell (zD O 1) x):=by
 obtain⟨h1,h2,h3,v⟩:=h;have m:=c.inY _ _ _ j;have n:∀b,a b->some b≠u.ownBlock:=λb hb e=>by
  rcases l b hb with h|h
  ·exact h3 b h e
  ·have:=hu b e.symm; omega
 have o:∀b,a b->Y b∨O+1<=b:=λb hb=>by
  rcases l b hb with h|h
  ·exact h2 b h
  ·right; omega
 refine⟨c.keep _ _ _ _ j λb hb=>?_,o,λb hb e=>?_,λh=>r (v h)⟩
 ·have y:b≠O:=λe=>by
   rcases o b hb with h|h
   ·have:=q b h; omega
   ·omega
  have z:=m b hb;rw[Al _ _ _ _ (by simpa using y),s.block b (by simp; omega) (n b hb),BH _ _ _ z]
 ·have e2:b=g:=by simpa [Value.ownBlock] using e
  subst e2;rcases t with h|h
  ·exact n b hb h.symm
  ·have:=m b hb; simp at h; omega
theorem NY {E:Ev} {Mt:Nat->Prop} (e:Gm E Mt) {w wr:World} {F O:Nat} {s:ByteArray} {u a:Value} {c:Tm} {n:Nat} {f f':Bool} {Y g:Nat->Prop} {d:Option Addr} {l' c':Nat} {m:Int} {v0 v1:Value} (hF:F<w.heap.size) (i:∀b,Y b->b<w.heap.size) (hO:w.heap.size+2<=O)
  (h1:Jv Mt w F O s u #[zA m,a] wr) (h2:Kn E O f Y u f' g wr) (hc:IM w c n f' s d l' m 2 wr):
  Hd E Mt F a c n f Y w (.returned (.agg #[.string s,.slice d l' c'])) ((wr.setCell (zD (w.heap.size+1) 0) v0).setCell (zD (w.heap.size+1) 1) v1):=
 Jt e hF i h1.2.2.2.1 h1.1 h2.1 (λb hb=>(h2.2.1 b hb).imp id λh=>by omega) h2.2.2.2 hc
theorem Yp {E:Ev} {Mt:Nat->Prop} (c:Gm E Mt) {w w':World} {F:Nat} {a:Value} {b:Tm} {n:Nat} {f:Bool} {Y:Nat->Prop} {e:Ending} (h:Hd E Mt F a b n f Y w e w') (o:Obj):Hd E Mt F a b n f Y w e (w'.alloc o):=by
 obtain⟨s',d,l',c',m,f',g,he,h1,h2,h3,i,h5,h6⟩:=h;refine⟨s',d,l',c',m,f',g,he,h1.alloc o,h2.alloc o,c.below h3 ((Ac _ _).alloc (Ag _) o),i,h5,?_⟩;rcases h6 with ⟨y,e1,e2,e3,j,e5,k⟩|h6
 ·exact Ad ⟨y,e1,e2,e3,j,e5.later ((Ac _ _).alloc (Ag _) o),k⟩
 ·exact Ae h6
theorem Sw {nm:ByteArray} {l:List Tm} {k:Nat} (h:k<l.length) (ho:Ax nm [l[k]]):Ax nm l:=by
 have:l=l.take k++(l[k]::l.drop (k+1)):=by rw[List.getElem_cons_drop,Fu]
 rw[this,LP,Ch];exact Ae (Ad ho)
theorem Yq {E:Ev} {Mt:Nat->Prop} (B:Gm E Mt) (F S:Nat) (r:ByteArray->Option Tm) (t:Tm):∀(n:Nat) (v:Value) (w:World) (X Y:Nat->Prop) (f:Bool),TV w X v t->(∀b,X b->b≠F/\¬Mt b)->n<=1000000->Ab w F #[zA n,sV S] 144->E f Y w->¬Y F->(∀nm,Ax nm t.args->Av nm=true->GD E Mt S (r nm) nm)->
  Calls prog 122 #[zC F,v,.func (.func 107) #[zC F] #[]] w λe w'=>Hd E Mt F (sV S) ⟨t.name,Dg r t.args⟩ n f Y w e w':=by
 induction t using Tm.ind with
 |h s l ih=>
  intro n v w X Y f L aD hn hF V aE hL;obtain⟨a,c,rfl,hs⟩:=L;(try dsimp only[zG]);(try dsimp only[zH]);(try dsimp only[zE]);(try dsimp only);have H:Hid (∀b,Y b->b<w.heap.size):=B.inY _ _ _ V;have ay:Hid (∀b,Mt b->b<w.heap.size):=λb hb=>H.o b (B.mt _ _ _ V b hb);have HL:=Aa hL;have aU:=Aa V;clear hL V;generalize aV:sV S=W at *;have IH:=Aa ih;clear ih;obtain⟨i0,aW,aX,aY,aZ⟩:=Dq Tryz.infoTerm;have f0:∀o,(w.alloc o).cell? (zD F 0)=some (zA n):=λo=>(hF.alloc o).cell 0;have ff:∀o,(w.alloc o).frozen? (zD F 0)=false:=λo=>(hF.alloc o).frozen 0;have Z:F<w.heap.size:=hF.lt;go_enter func122,ntmps122;go_wp2_with fail;have E3:Hid (Jv Mt w F (w.heap.size+1+1) s zB #[zA ((n:Int)-1),W] ((((w.setCell (zD F 0) (zA ((n:Int)-1))).alloc (.cells #[.string s,.slice a l.length c] 61)).alloc (.cells #[.string ⟨#[]⟩,zB] 61)).alloc (.cells #[.string s,zB] 61))):=by
   refine⟨((((Ak.refl _ w).set (Ad rfl) 0 _).alloc _).alloc _).alloc _,?_,?_,(((hF.set 0 _).alloc _).alloc _).alloc _,by simp[World.setCell]⟩
   ·have h:=(Ab.new ((w.setCell (zD F 0) (zA ((n:Int)-1))).alloc (.cells #[.string s,.slice a l.length c] 61)) #[.string ⟨#[]⟩,zB] 61).alloc (.cells #[.string s,zB] 61);simpa [World.setCell] using h
   ·have h:=Ab.new (((w.setCell (zD F 0) (zA ((n:Int)-1))).alloc (.cells #[.string s,.slice a l.length c] 61)).alloc (.cells #[.string ⟨#[]⟩,zB] 61)) #[.string s,zB] 61;simpa [World.setCell] using h
  have ba:Hid (Kn E (w.heap.size+1+1) f Y zB f Y ((((w.setCell (zD F 0) (zA ((n:Int)-1))).alloc (.cells #[.string s,.slice a l.length c] 61)).alloc (.cells #[.string ⟨#[]⟩,zB] 61)).alloc (.cells #[.string s,zB] 61))):=(by refine⟨B.keep _ _ _ _ aU.o λb hb=>?_,λb hb=>Ad hb,λb _ e=>by simp[Value.ownBlock] at e,λh=>h⟩;have h1:=H.o b hb;rw[BH _ _ _ (by simp[World.setCell]; omega),BH _ _ _ (by simp[World.setCell]; omega),BH _ _ _ (by simpa [World.setCell] using h1),Al _ _ _ _ (by simp; intro e; subst e; exact aE hb)]);generalize ((((w.setCell (zD F 0) (zA ((n:Int)-1))).alloc (.cells #[.string s,.slice a l.length c] 61)).alloc (.cells #[.string ⟨#[]⟩,zB] 61)).alloc (.cells #[.string s,zB] 61))=w3 at *;generalize bb:w.heap.size+1+1=O at *;have hO:w.heap.size+2<=O:=by omega
  clear bb;clear f0 ff;have HS:=Aa hs;have hl:=hs.1;have I:=Aa aD;clear hs aD;have HQ:Hid (∀b,w.heap.size<=b->¬(b=F∨Mt b)):=λb hb h=>by
   rcases h with h|h
   ·omega
   ·have:=ay.o b h; omega
  go_loopw [23] (λi wr=>Yn E Mt r w F O s W l n f Y i wr) (λi wr=>l.length-(intOf i).toNat);case atStart=>
   refine⟨0,zB,f,Y,Bm _,rfl,ba.o,?_⟩;by_cases bc:n=0
   ·subst bc;exact Ae ⟨E3.o,⟨none,0,0,rfl⟩,λ_=>by omega⟩
   ·refine Ad ⟨n-1,[],[],rfl,by simp[Ah]; omega,?_,Cj.start _ _ _ _,λ_=>by simp[Dg]⟩;rw[show((n-1:Nat):Int)=(n:Int)-1 by omega];exact E3.o
  case round=>
   obtain⟨k,u,f',Y',hk,rfl,aF,aj⟩:=hrel;have J:=Aa aF;clear aF;rcases aj with ⟨m,xs,q,M,hm,N,al,aG⟩|⟨N,⟨a9,l9,c9,rfl⟩,an⟩
   ·have d:=Aa N;have D:=Aa al;have az:=Aa hm;have ax:=Aa aG;clear N al aG;by_cases G:k<l.length
    ·obtain⟨b,o,A,c',rfl,d0,d1,hx⟩:=(HS.o.exq d.o.1 (λb hb h=>by rcases h with h|h; exact(I.o b hb).1 h; exact(I.o b hb).2 h)).get (Ac _ _) (λ_ _ h=>h) k G;obtain⟨av,cv,ev,bd⟩:=hx;simp at ev;obtain⟨rfl,rfl⟩:=ev;have aH:m<=1000000:=(by omega);have a6:¬(O=F∨Mt O):=HQ.o O (by omega);have aI:Hid (∀b,(b=F∨Mt b)->b<O):=λb h=>by
      rcases h with h|h
      ·omega
      ·have:=ay.o b h; omega
     have bz:k<=1000000:=by have h1:=Hw q; rw[M] at h1; omega
     have aJ:Hid (q.length+1<=maxLen/\(q.length+1)*40<=140737488355328):=Aa (by rw[M];exact⟨by unfold maxLen; omega,by omega⟩);have a7:¬Y' F:=λh=>by
      rcases J.o.2.1 F h with h1|h1
      ·exact aE h1
      ·omega
     have bf:Hid (Calls prog 107 #[zC F,.agg (zG l[k] A c')] (wr.alloc (.cells (zG l[k] A c') 61)).drew λe bg=>Hd E Mt F W (Do r l[k]) m f' Y' (wr.alloc (.cells (zG l[k] A c') 61)).drew e bg):=by
      have aK:Below wr.heap.size wr (wr.alloc (.cells (zG l[k] A c') 61)).drew:=((Ac _ _).alloc (Ag _) _).drew;have bh:E f' Y' (wr.alloc (.cells (zG l[k] A c') 61)).drew:=B.below J.o.1 aK;have bj:Ab (wr.alloc (.cells (zG l[k] A c') 61)).drew F #[zA m,W] 144:=(d.o.2.2.2.1.alloc _).drewN 1;have bk:Sl (wr.alloc (.cells (zG l[k] A c') 61)).drew X A l[k].args:=bd.later aK;have bl:=IH.o l[k] (Bu G) m;clear az d D;subst aV;refine Sp B F S r l[k] m A c' _ X Y' f' aH I.o a7 bk bj bh (λL=>HL.o _ (Sw G ?_) L) (λw' f2 Y2 h1 h2 h3 h4=>bl _ w' X Y2 f2 ⟨A,c',rfl,h1⟩ I.o aH h2 h3 h4 (λnm ho L=>HL.o nm (Sw G ?_) L))
      ·generalize l[k]=y;obtain⟨n1,k1⟩:=y;exact Dt.2 (Ad rfl)
      ·generalize l[k]=y at ho ⊢;obtain⟨n1,k1⟩:=y;exact Dt.2 (Ae (Ad ho))
     have f0:∀o,(wr.alloc o).cell? (zD F 0)=some (zA m):=λo=>(d.o.2.2.2.1.alloc o).cell 0;have o1:∀o,(wr.alloc o).cell? (zD O 1)=some u:=λo=>(d.o.2.2.1.alloc o).cell 1;have b0:¬(m:Int)<0:=(by omega);go_wp2_with fail;go_region_law (first
      | (go_simp; go_at_call 107; refine bf.o.mono ?_; rintro e w1 ⟨s1,P,l1,c1,m1,f1,Y1,rfl,aL,aM,aN,ae,ao,aO⟩; have C:=(((Ak.refl (λb=>b=F∨Mt b) wr).alloc (.cells (zG l[k] A c') 61)).drew).trans aM; have a8:=Aa ae; have aP:=Aa ao; have bm:=Aa aO; have bn:=Aa aN; clear aM ae ao aO aN; have bo:∀o,(w1.alloc o).cell? (zD O 1)=some u:=λo=>((Ab.exq d.o.2.2.1 C a6).alloc o).cell 1; have bp:w1.cell? (zD O 1)=some u:=(Ab.exq d.o.2.2.1 C a6).cell 1)
      | (refine step_append_lies _ rfl _ _ 59 rfl (O+1) 61 i0 _ 2 40 underlying59 aW aX aY aZ rfl (by decide) u q.length xs rfl (by exact(Cj.exq D.o C (λb hb=>by have:=aI.o b hb; omega) (λ_ _ h=>h)).own.alloc _) (zD w1.heap.size 0) 1 1 [.string s1,.slice P l1 c1] rfl rfl (cell_two_new _ _ _ _) (λx hx=>by simp at hx; rcases hx with rfl|rfl<;>rfl) (by decide) aJ.o.1 aJ.o.2 (by have:=C.size; have:=d.o.2.2.2.2; simp; omega) _ rfl ?_; intro g cap w3 af R ag aA; have aB:=Aa (((Ab.exq d.o.2.2.1 C a6).alloc _).grown R (D.o.ne (Dx _))); have bq:w3.cell? (zD O 1)=some u:=aB.o.cell 1; have br:=aB.o.frozen 1))
     all_goals
      have HK:=Aa (Yl (v:=.slice (some (zD g 0)) (q.length+1) cap) Z ay.o hO d.o (λj hj=>(D.o.own.lt j hj).1) C aL R);have aC:=Aa (Yo (n9:=q.length+1) (cap:=cap) (x:=.slice (some (zD g 0)) (q.length+1) cap) B (λb hb=>by have:=H.o b hb; omega) J.o (λj hj=>(D.o.own.lt j hj).2) d.o.2.2.2.2 C.size bn.o (λb hb=>(a8.o b hb).imp id λh=>by simp at h; omega) aP.o R ag);have bs:Hid (∀y:Tm,TV w1 (λb=>wr.heap.size<=b) (.agg #[.string s1,.slice P l1 c1]) y->Cj (w3.setCell (zD O 1) (.slice (some (zD g 0)) (q.length+1) cap)) (O+1) 61 (λ_=>False) (.slice (some (zD g 0)) (q.length+1) cap) (q++[y]) (xs++[.string s1,.slice P l1 c1])):=λy hy=>Ym aI.o d.o.2.2.2.2 D.o C hy af R ag;clear af R ag bo bp bq br aB aL C aA;go_wp2_with fail;go_roundw
      case rel=>
       have h1:=HK.o;have h2:=bs.o;have h3:=aC.o;have bt:=az.o;simp only[M] at h1 h2 h3;refine⟨k+1,.slice (some (zD g 0)) (k+1) cap,f1,Y1,by omega,by go_num,h3,?_⟩;have aQ:Dg r (l.take (k+1))=Dg r (l.take k)++[Do r l[k]]:=by rw[CB G,Sm]; simp[Mp]
       have aR:f1=false->f'=false:=λz=>by
        cases h:f' with
        |false=>rfl
        |true=>have:=aP.o h; rw[z] at this; cases this
       rcases bm.o with ⟨y,rfl,rfl,rfl,e4,e5,e6⟩|⟨rfl,e2⟩
       ·refine Ad ⟨m-Ah [y],xs++[.string y.name,.slice P y.args.length c1],q++[y],by simp[M],by rw[FW]; omega,?_,h2 y ⟨P,c1,rfl,e5.mono λb hb _=>by simp at hb; omega⟩,λz=>by rw[aQ,ax.o (aR z),e6 z]⟩;rw[show((m-Ah [y]:Nat):Int)=(m:Int)-Ah [y] by omega];exact h1
       ·refine Ae ⟨h1,⟨_,_,_,rfl⟩,λz=>?_⟩;have h4:=e2 z;have h5:=ax.o (aR z);have h6:Ah (Dg r (l.take (k+1)))=Ah q+Ah [Do r l[k]]:=(by rw[aQ,FW,h5]);have h7:Dg r l=Dg r (l.take (k+1))++Dg r (l.drop (k+1)):=(by rw[<-Sm,Fu]);rw[h7,FW];omega
      case measure=>simp[intOf]; omega
    ·have bu:l.take k=l:=Bv (by omega);rw[bu]at ax;obtain⟨a9,c9,bw,aq⟩:=D.o.sl;subst bw;have S9:=Aa aq;clear aq;have T:=d.o.2.1.c0;have U:=d.o.2.1.c1;have rf:=d.o.2.1.frozen;have o0:=d.o.2.2.1.c0;have o1:=d.o.2.2.1.c1;go_wp2_with fail;refine Ao (v:=.agg #[.string s,.slice a9 q.length c9]) (by simp[results,results122,go_sem,AK,AB,T,U,M]) rfl ?_;have bt:=az.o;have aS:Ah [(⟨s,q⟩:Tm)]=1+Ah q:=(by simp[Ah]);refine NY B Z H.o hO d.o J.o (Ad ⟨⟨s,q⟩,rfl,rfl,by rw[aS]; omega,by rw[aS]; omega,S9.o.mono λb hb _=>?_,λz=>by rw[ax.o z]⟩);have b1:O+1<=b:=hb.elim False.elim id;omega
   ·have d:=Aa N;have ar:=Aa an;clear N an;have aT:Ah [(⟨s,Dg r l⟩:Tm)]=1+Ah (Dg r l):=(by simp[Ah]);have f0:∀o,(wr.alloc o).cell? (zD F 0)=some (zA (-1)):=λo=>(d.o.2.2.2.1.alloc o).cell 0;by_cases G:k<l.length
    ·obtain⟨b,o,A,c',rfl,d0,d1,hx⟩:=(HS.o.exq d.o.1 (λb hb h=>by rcases h with h|h; exact(I.o b hb).1 h; exact(I.o b hb).2 h)).get (Ac _ _) (λ_ _ h=>h) k G;clear hx;have o0:∀o,(wr.alloc o).cell? (zD O 0)=some (.string s):=λo=>(d.o.2.2.1.alloc o).cell 0;have o1:∀o,(wr.alloc o).cell? (zD O 1)=some (.slice a9 l9 c9):=λo=>(d.o.2.2.1.alloc o).cell 1;have T:=d.o.2.1.c0;have U:=d.o.2.1.c1;have rf:=d.o.2.1.frozen;have bx:w.heap.size+1<wr.heap.size:=d.o.2.1.lt;go_wp2_with fail;refine Ao (v:=.agg #[.string s,.slice a9 l9 c9]) (by simp[results,results122,go_sem,AK,AB,T,U,bx,EA]) rfl ?_;exact Yp B (NY B Z H.o hO d.o J.o (Ae ⟨rfl,λz=>by rw[aT]; exact ar.o z⟩)) _
    ·have T:=d.o.2.1.c0;have U:=d.o.2.1.c1;have rf:=d.o.2.1.frozen;have o0:=d.o.2.2.1.c0;have o1:=d.o.2.2.1.c1;go_wp2_with fail;refine Ao (v:=.agg #[.string s,.slice a9 l9 c9]) (by simp[results,results122,go_sem,AK,AB,T,U]) rfl ?_;exact NY B Z H.o hO d.o J.o (Ae ⟨rfl,λz=>by rw[aT]; exact ar.o z⟩)
theorem Yr {E:Ev} {Mt:Nat->Prop} (h:Gm E Mt) (F S:Nat) (d:ByteArray->Option Tm) (t:Tm) (n:Nat) (a:Option Addr) (c:Nat) (w:World) (X Y:Nat->Prop) (f:Bool) (i:n<=1000000) (j:∀b,X b->b≠F/\¬Mt b) (m:¬Y F) (o:Sl w X a t.args) (hF:Ab w F #[zA n,sV S] 144) (q:E f Y w)
  (k:∀nm,Ax nm [t]->Av nm=true->GD E Mt S (d nm) nm):
  Calls prog 107 #[zC F,.agg (zG t a c)] w λe w'=>Hd E Mt F (sV S) (Do d t) n f Y w e w':=
 Sp h F S d t n a c w X Y f i j m o hF q (λg=>k _ (by obtain⟨s,l⟩:=t; exact Dt.2 (Ad rfl)) g)
  (λw' f' r h1 h2 h3 u=>Yq h F S d t n _ w' X r f' ⟨a,c,rfl,h1⟩ j i h2 h3 u (λnm ho g=>k nm (by obtain⟨s,l⟩:=t; exact Dt.2 (Ae (Ad ho))) g))
def Sz (E:Ev) (Mt:Nat->Prop) (tgt:Tm) (n:Nat) (f:Bool) (Y:Nat->Prop) (w:World) (e:Ending) (w':World):Prop:=
 ∃(s':ByteArray) (a':Option Addr) (l' c':Nat) (ok:Bool) (f':Bool) (Y':Nat->Prop),e=.returned (.tuple #[.agg #[.string s',.slice a' l' c'],.bool ok])/\E f' Y' w'/\(∀b,Y' b->Y b∨w.heap.size<=b)/\(f=true->f'=true)/\Ak Mt w w'/\
  ((ok=true/\∃y:Tm,s'=y.name/\l'=y.args.length/\Ah [y]<=n/\Sl w' (λb=>w.heap.size<=b) a' y.args/\(f'=false->y=tgt))∨(ok=false/\s'=⟨#[]⟩/\a'=none/\l'=0/\c'=0/\(f'=false->n<Ah [tgt])))
theorem Ys {E:Ev} {Mt:Nat->Prop} (d:Gm E Mt) (S:Nat) (s:ByteArray->Option Tm) (t:Tm) (n:Nat) (a:Option Addr) (c:Nat) (w:World) (X Y:Nat->Prop) (f:Bool) (hn:n<=1000000) (A:∀b,X b->¬Mt b) (B:Sl w X a t.args) (l:E f Y w)
  (C:∀nm,Ax nm [t]->Av nm=true->GD E Mt S (s nm) nm):
  Calls prog 87 #[.agg (zG t a c),zA n,sV S] w λe w'=>Sz E Mt (Do s t) n f Y w e w':=by
 have aA:=@hmq prog;have HS:=Aa (B.mono (Y:=λb=>X b/\b<w.heap.size) λb h1 h2=>⟨h1,h2⟩);have HE:=Aa l;have HL:=Aa C;have a6:=Aa A;have u:Hid (∀b,Y b->b<w.heap.size):=d.inY _ _ _ l;have a7:Hid (∀b,Mt b->b<w.heap.size):=λb hb=>u.o b (d.mt _ _ _ l b hb);clear B l C A;have D:Hid (sV S=.func (.func 147) #[zC S] #[]):=rfl;rw[D.o];go_enter func87,ntmps87;go_wp2_with fail;rw[<-D.o];have x:Hid (Below w.heap.size w (((w.alloc (.cells (zG t a c) 61)).alloc (.cells #[.string ⟨#[]⟩,zB] 61)).alloc (.cells #[zA n,sV S] 144))):=((((Ac w.heap.size w).alloc (Ag _) _).alloc (by simp) _).alloc (by simp; omega) _);have F3:Hid (Ab (((w.alloc (.cells (zG t a c) 61)).alloc (.cells #[.string ⟨#[]⟩,zB] 61)).alloc (.cells #[zA n,sV S] 144)) (w.heap.size+1+1) #[zA n,sV S] 144):=Aa (by have h:=Ab.new ((w.alloc (.cells (zG t a c) 61)).alloc (.cells #[.string ⟨#[]⟩,zB] 61)) #[zA n,sV S] 144;simpa using h);have R3:Hid (Ab (((w.alloc (.cells (zG t a c) 61)).alloc (.cells #[.string ⟨#[]⟩,zB] 61)).alloc (.cells #[zA n,sV S] 144)) (w.heap.size+1) #[.string ⟨#[]⟩,zB] 61):=Aa (by have h:=(Ab.new (w.alloc (.cells (zG t a c) 61)) #[.string ⟨#[]⟩,zB] 61).alloc (.cells #[zA n,sV S] 144);simpa using h);have z3:(((w.alloc (.cells (zG t a c) 61)).alloc (.cells #[.string ⟨#[]⟩,zB] 61)).alloc (.cells #[zA n,sV S] 144)).heap.size=w.heap.size+3:=by simp
 generalize (((w.alloc (.cells (zG t a c) 61)).alloc (.cells #[.string ⟨#[]⟩,zB] 61)).alloc (.cells #[zA n,sV S] 144))=w3 at *;refine(Yr d (w.heap.size+1+1) S s t n a c w3 (λb=>X b/\b<w.heap.size) Y f hn (λb hb=>⟨by have:=hb.2; omega,a6.o b hb.1⟩) (λh=>by have:=u.o _ h; omega) (HS.o.later x.o) F3.o (d.below HE.o x.o) HL.o).mono ?_;rintro e g ⟨s',F,l',c',m,f',j,rfl,G,q,H,I,J,ar⟩;have L:=Aa G;have r:=Aa (R3.o.exq q (λh=>by rcases h with h|h; omega; have:=a7.o _ h; omega));have aB:=q.size;have M:Hid (Ak Mt w g):=(Ak.ofBelow x.o).transN q (λi hi N=>by rcases hi with h|h; omega; exact h);have O:=Aa H;have P:Hid (∀b,j b->Y b∨w.heap.size+3<=b):=λb hb=>(I b hb).imp id λh=>by omega
 have R:=Aa J;have HC:=Aa ar;clear G q H I J ar;have T:=r.o.c0;have U:=r.o.c1;have rf:=r.o.frozen;have V:w.heap.size+1<g.heap.size:=r.o.lt;have W:Hid (∀v0 v1 o,E f' j (((g.setCell (zD (w.heap.size+1) 0) v0).setCell (zD (w.heap.size+1) 1) v1).alloc o)):=λv0 v1 o=>d.keep _ _ _ _ O.o λb hb=>by
  have Z:b≠w.heap.size+1:=λe=>by
   rcases P.o b hb with h|h
   ·have:=u.o b h; omega
   ·omega
  have N:=d.inY _ _ _ O.o b hb;rw[BH _ _ _ (by simpa [World.setCell] using N),Al _ _ _ _ (by simpa using Z),Al _ _ _ _ (by simpa using Z)]
 have ab:Hid (∀b,j b->Y b∨w.heap.size<=b):=λb hb=>(P.o b hb).imp id λh=>by omega
 rcases HC.o with ⟨y,rfl,rfl,rfl,hle,a1,k⟩|⟨rfl,k⟩
 ·have a8:=Aa a1;have z:=Aa k;clear a1 k;have f0:∀o,(g.alloc o).cell? (zD (w.heap.size+1+1) 0)=some (zA ((n:Int)-Ah [y])):=λo=>(L.o.alloc o).cell 0;have hlt:¬((n:Int)-Ah [y])<0:=by omega
  go_wp2_with fail;refine Ao (v:=.tuple #[.agg (zG y F c'),.bool true]) (by simp[results,results87,go_sem,AK,AB,T,U,V,EA]) rfl ?_;refine⟨y.name,F,y.args.length,c',true,f',j,rfl,W.o _ _ _,ab.o,R.o,((M.o.setNew (by omega) _ _).setNew (by omega) _ _).alloc _,Ad ⟨rfl,y,rfl,rfl,hle,((a8.o.kept λb hb=>?_).later ((Ac _ _).alloc (Ag _) _)).mono λb hb _=>by omega,z.o⟩⟩;rw[Al _ _ _ _ (by simp; omega),Al _ _ _ _ (by simp; omega)]
 ·have z:=Aa k;clear k;have f0:∀o,(g.alloc o).cell? (zD (w.heap.size+1+1) 0)=some (zA (-1)):=λo=>(L.o.alloc o).cell 0;go_wp2_with fail;refine Ao (v:=.tuple #[.agg #[.string ⟨#[]⟩,zB],.bool false]) (by simp[results,results87,go_sem,AK,AB,T,U,V,EA]) rfl ?_;exact⟨⟨#[]⟩,none,0,0,false,f',j,rfl,W.o _ _ _,ab.o,R.o,((M.o.setNew (by omega) _ _).setNew (by omega) _ _).alloc _,Ae ⟨rfl,rfl,rfl,rfl,rfl,z.o⟩⟩
def NZ (S q:Nat) (td:Value) (h:List (ByteArray×Tm)) (tgt:Tm) (f:Bool) (Y:Nat->Prop) (w:World) (e:Ending) (w':World):Prop:=
 ∃(y:Tm) (a':Option Addr) (c':Nat) (ok:Bool) (f':Bool) (Y':Nat->Prop),e=.returned (.tuple #[.agg (zG y a' c'),.bool ok])/\Cp S q td h f' Y' w'/\(∀b,Y' b->Y b∨w.heap.size<=b)/\(f=true->f'=true)/\Ak (Cq S q) w w'/\Sl w' (λb=>w.heap.size<=b) a' y.args/\
  (ok=true->f'=false/\y=tgt/\Ah [y]<=2000)/\(ok=false->f'=true∨2000<Ah [tgt])
theorem N0 {S q:Nat} {a:Value} {h:List (ByteArray×Tm)} {f f':Bool} {Y c:Nat->Prop} {w w1:World} {o:Obj} {y d:Tm} {g:Option Addr} {c':Nat} {ok:Bool} {v0 v1:Value} (i:Cp S q a h f' c w1) (l:∀b,Y b->b<w.heap.size) (j:∀b,c b->Y b∨w.heap.size+2<=b) (m:f=true->f'=true) (hx:Ak (Cq S q) w w1) (n:Sl w1 (λb=>w.heap.size+2<=b) g y.args)
  (h1:ok=true->f'=false/\y=d/\Ah [y]<=2000) (h2:ok=false->f'=true∨2000<Ah [d]):
  NZ S q a h d f Y w (.returned (.tuple #[.agg (zG y g c'),.bool ok])) (((w1.alloc o).setCell (zD (w.heap.size+1) 0) v0).setCell (zD (w.heap.size+1) 1) v1).drew:=by
 have hk:∀b,b<w1.heap.size->b≠w.heap.size+1->((((w1.alloc o).setCell (zD (w.heap.size+1) 0) v0).setCell (zD (w.heap.size+1) 1) v1).drew).heap[b]? = w1.heap[b]? := λb hb k=>by
  show(((w1.alloc o).setCell (zD (w.heap.size+1) 0) v0).setCell (zD (w.heap.size+1) 1) v1).heap[b]? = _;rw[Al _ _ _ _ (by simpa using k),Al _ _ _ _ (by simpa using k),BH _ _ _ hb]
 refine⟨y,g,c',ok,f',c,rfl,(Du S q a h).keep _ _ _ _ i λb hb=>hk b (i.2.2.2.1 b hb) λe=>?_,λb hb=>(j b hb).imp id λh=>by omega,m,(((hx.alloc o).setNew (by omega) _ _).setNew (by omega) _ _).drew,((n.mono (Y:=λb=>w.heap.size+2<=b/\b<w1.heap.size) λb h1 h2=>⟨h1,h2⟩).kept λb hb=>hk b hb.2 (by omega)).mono λb hb _=>by omega,h1,h2⟩;rcases j b hb with h|h
 ·have:=l b h; omega
 ·omega
theorem SC (S q:Nat) (d:Value) (h:List (ByteArray×Tm)) (t:Tm) (a:Option Addr) (c:Nat) (w:World) (X Y:Nat->Prop) (f:Bool) (B:∀b,X b->¬Cq S q b) (C:Sl w X a t.args) (j:Cp S q d h f Y w)
  (D:∀nm,Ax nm [t]->Av nm=true->GD (Cp S q d h) (Cq S q) S (AC (Aj h) nm) nm):
  Calls prog 140 #[zC S,.agg (zG t a c)] w λe w'=>NZ S q d h (Do (AC (Aj h)) t) f Y w e w':=by
 have ax:=@hmq prog;have N:=Aa C;have m:=Aa j;have O:=Aa D;have P:=Aa B;have ay:S<w.heap.size:=j.2.2.2.1 S j.2.1;clear C j D B;have k:Hid (∀b,Y b->b<w.heap.size):=m.o.2.2.2.1;have R:Hid (∀b,Cq S q b->b<w.heap.size):=λb hb=>k.o b ((Du S q d h).mt _ _ _ m.o b hb);have E:Hid (∀w',Below w.heap.size w w'->Calls prog 87 #[.agg (zG t a c),zA 2000,.func (.func 147) #[zC S] #[]] w' λe T=>Sz (Cp S q d h) (Cq S q) (Do (AC (Aj h)) t) 2000 f Y w' e T):=λw' hb=>
  Ys (Du S q d h) S (AC (Aj h)) t 2000 a c w' X Y f (by omega) P.o (N.o.later hb) ((Du S q d h).below m.o hb) O.o
 have F:Hid (Below w.heap.size w ((w.alloc (.cells (zG t a c) 61)).alloc (.cells #[.string ⟨#[]⟩,zB] 61))):=EC _ _;have U:Hid (Ab ((w.alloc (.cells (zG t a c) 61)).alloc (.cells #[.string ⟨#[]⟩,zB] 61)) (w.heap.size+1) #[.string ⟨#[]⟩,zB] 61):=Aa (by have h:=Ab.new (w.alloc (.cells (zG t a c) 61)) #[.string ⟨#[]⟩,zB] 61;simpa using h);have z2:((w.alloc (.cells (zG t a c) 61)).alloc (.cells #[.string ⟨#[]⟩,zB] 61)).heap.size=w.heap.size+2:=by simp
 go_enter func140,ntmps140;go_wp2_with fail;generalize ((w.alloc (.cells (zG t a c) 61)).alloc (.cells #[.string ⟨#[]⟩,zB] 61))=w2 at *;refine(E.o _ F.o).mono ?_;rintro e w1 ⟨s',n,l',c',ok,f',V,rfl,G,H,I,hx,hc⟩;have r:=Aa G;have s:Hid (∀b,V b->Y b∨w.heap.size+2<=b):=λb hb=>(H b hb).imp id λh=>by omega
 have J:=Aa I;have u:Hid (Ak (Cq S q) w w1):=(Ak.ofBelow F.o).trans hx;have g:=Aa (U.o.exq hx (λh=>by have:=R.o _ h; omega));have az:Hid (w.heap.size+2<=w1.heap.size):=Aa (by have:=hx.size;omega);have W:=Aa hc;obtain⟨⟨L,M,_,_⟩,_⟩:=G;have b2:∀o,(w1.alloc o).cell? (zD S 2)=some (.bool f'):=λo=>(M.alloc o).cell 2;have x:∀o,(w1.alloc o).cell? (zD (w.heap.size+1) 0)=some (.string ⟨#[]⟩):=λo=>(g.o.alloc o).cell 0;have z:∀o,(w1.alloc o).cell? (zD (w.heap.size+1) 1)=some (zB):=λo=>(g.o.alloc o).cell 1;have rf:=g.o.frozen;clear M H I hx hc E;go_wp2_with fail;have p0:∀o,(w1.alloc o).frozen? (zD (w.heap.size+1) 0)=false:=λo=>(g.o.alloc o).frozen 0;have p1:∀o,(w1.alloc o).frozen? (zD (w.heap.size+1) 1)=false:=λo=>(g.o.alloc o).frozen 1;rcases W.o with ⟨rfl,y,rfl,rfl,hz,ar,i⟩|⟨rfl,rfl,rfl,rfl,rfl,i⟩
 ·have l:Hid (Sl w1 (λb=>w.heap.size+2<=b) n y.args):=ar.mono λb hb _=>by omega
  have A:=Aa i;have Z:=Aa hz;clear ar i hz;cases f' with
  |true=>
   go_region
   all_goals
    go_wp2_with fail;refine Ao (v:=.tuple #[.agg (zG y n c'),.bool false]) (by simp[results,results140,go_sem,AK,AB,x,z]) rfl ?_;exact N0 r.o k.o s.o (λ_=>rfl) u.o l.o (λh=>by cases h) (λ_=>Ad rfl)
  |false=>
   go_region
   all_goals
    go_wp2_with fail;refine Ao (v:=.tuple #[.agg (zG y n c'),.bool true]) (by simp[results,results140,go_sem,AK,AB,x,z]) rfl ?_;exact N0 r.o k.o s.o J.o u.o l.o (λ_=>⟨rfl,A.o trivial,Z.o⟩) (λh=>by cases h)
 ·have A:=Aa i;clear i;have l:Hid (Sl w1 (λb=>w.heap.size+2<=b) none (⟨⟨#[]⟩,[]⟩:Tm).args):=⟨by simp,Ad rfl⟩;go_region
  all_goals
   go_wp2_with fail;refine Ao (v:=.tuple #[.agg #[.string (⟨⟨#[]⟩,[]⟩:Tm).name,.slice none (⟨⟨#[]⟩,[]⟩:Tm).args.length 0],.bool false]) (by simp[results,results140,go_sem,AK,AB,x,z]) rfl ?_;exact N0 r.o k.o s.o J.o u.o l.o (λh=>by cases h) (λ_=>by
    cases hf:f' with
    |true=>exact Ad rfl
    |false=>exact Ae (A.o hf))
theorem SD {w:World} {Y:Nat->Prop} {h:List (ByteArray×Tm)} {i:Nat} {hi:i<h.length} {v:Value} (e:Qb w Y h i hi v):∃(T:Tm) (j:Nat) (a:Option Addr) (c:Nat),T=stood h i (max j (i+1)) hi/\j<=h.length/\v=.agg #[.string T.name,.slice a T.args.length c,zA j]/\Sl w Y a T.args:=by
 obtain⟨j,a,c,h1,h2,h3⟩:=e;exact⟨_,j,a,c,rfl,h1,h2,h3⟩
theorem Ko {P:Program} {w:World} {T a b:TypeId} {r:Nat} {L:List (ByteArray×Value)} (hm:P.underlying T=some (.map a b)) (h:BC w r L) (ty:TypeId):(Builtin.len_ #[T] ty #[.map (some r)]).run P w=.ok (zA (L.length:Int)) w:=by
 obtain⟨es,aa,hb,he,_⟩:=h;have c:es.size=L.length:=by have:=Dl List.length he; simpa using this
 simp[Builtin.len_,Fj hm,Gp hb,goInt,Result.andThen,c]
theorem SH (S q:Nat) (d:Value) (h:List (ByteArray×Tm)) (g:Ci h) (nm:ByteArray) (e:∀i (hi:i<h.length),h[i].1≠nm):GD (Cp S q d h) (Cq S q) S (AC (Aj h) nm) nm:=by
 intro f Y w j;have l:=Aa j;obtain⟨⟨L,a,c,k⟩,ad,ae,hY,m⟩:=j;have hz:∀w',(zeroValue 193).run prog w'=.ok (.agg #[.string ⟨#[]⟩,zB,zA 0]) w':=λw'=>zeroValue193 w';have n:=c.lt;have af:=a.lt;have r:=Aa (Yj g e);have b1:∀o,(w.alloc o).cell? (zD S 1)=some (.map (some q)):=λo=>(a.alloc o).cell 1;have ag:∀o,(Instr.lookup 159 (.map (some q)) (.string nm) true).run prog (w.alloc o)=.ok (.tuple #[.agg #[.string ⟨#[]⟩,zB,zA 0],.bool false]) (w.alloc o):=λo=>by
  rw[Hx (P:=prog) underlying159 underlying9 (hz _) (c.kept (BH _ _ _ n)) nm,k.none e]; rfl
 have HB:=Aa a;clear a c k m;go_enter func147,ntmps147;go_wp2_with fail;go_region
 all_goals go_wp2_with fail
 all_goals
  refine Ao (v:=.tuple #[.agg #[.string ⟨#[]⟩,zB],.bool false]) (by simp[results,results147,go_sem]) rfl ?_;exact⟨⟨#[]⟩,none,0,0,false,f,Y,rfl,(Du S q d h).below l.o (((Ac _ _).alloc (Ag _) _).alloc (by simp) _).drew,λb hb=>Ad hb,λh=>h,(((Ak.refl _ _).alloc _).alloc _).drew,Ae ⟨rfl,λ_=>r.o⟩⟩
theorem Yt {S q:Nat} {j:Value} {h:List (ByteArray×Tm)} (g:Ci h) {i:Nat} (hi:i<h.length) {f':Bool} {d Z:Nat->Prop} {w1 WS:World} (s:Cp S q j h f' d w1) (hk:∀b,d b->WS.heap[b]? = w1.heap[b]?) {f:Option Addr} {c':Nat} {y:Tm} (hy:y=stood h i h.length hi) (n:∀b,Z b->b<WS.heap.size/\b≠S/\b≠q) (t:Sl WS Z f y.args) {nm:ByteArray} (u:h[i].1=nm):
  ∃c,(Instr.mapUpdate 159 (.map (some q)) (.string nm) (.agg #[.string y.name,.slice f y.args.length c',zA (h.length:Int)])).run prog WS=.ok () c/\Cp S q j h f' (λb=>d b∨Z b) c/\c.heap.size=WS.heap.size/\c.os=WS.os/\c.tape=WS.tape/\c.output=WS.output/\∀b,b≠q->c.heap[b]? = WS.heap[b]? := by
 have v:=(Du S q j h).keep _ _ _ _ s hk;obtain⟨⟨L,e1,e2,e3⟩,x,e5,z,A⟩:=v;obtain⟨v0,B,_⟩:=e3.get g hi;have C:S≠q:=λe=>by
  obtain⟨es,ag,h1,_⟩:=e2;subst e;unfold Ab at e1;rw[h1]at e1; cases e1
 obtain⟨c,h1,h2,h3,D,h5,h6,k⟩:=WH (P:=prog) underlying159 underlying9 e2 h[i].1 (.agg #[.string y.name,.slice f y.args.length c',zA (h.length:Int)]) v0 B;refine⟨c,by rw[<-u]; exact h1,⟨⟨_,?_,h2,?_⟩,Ad x,Ad e5,λb hb=>?_,A⟩,h3,D,h5,h6,k⟩
 ·unfold Ab at *; rw[k S C]; exact e1
 ·have o:∀(X:Nat->Prop) a l,(∀b,X b->(d b∨Z b)/\b≠S/\b≠q)->Sl WS X a l->Sl c (λb=>(d b∨Z b)/\b≠S/\b≠q) a l:=λX a l r m=>(m.kept λb hb=>k b (r b hb).2.2).mono λb hb _=>r b hb;refine(e3.imp λa l m=>o _ a l (λb hb=>⟨Ad hb.1,hb.2⟩) m).set g hi ⟨h.length,f,c',Ag _,?_,?_⟩
  ·rw[Nat.max_eq_left (by omega),<-hy]
  ·rw[Nat.max_eq_left (by omega),<-hy];exact o _ _ _ (λb hb=>⟨Ae hb,(n b hb).2⟩) t
 ·rw[h3];rcases hb with hb|hb
  ·exact z b hb
  ·exact(n b hb).1
theorem Yu {S q:Nat} {c:Value} {h:List (ByteArray×Tm)} {f':Bool} {d Z:Nat->Prop} {w1 WS:World} (g:Cp S q c h f' d w1) (hk:∀b,d b->WS.heap[b]? = w1.heap[b]?) (i:AU (Aj h)=true) (j:∀b,Z b->b<WS.heap.size/\b≠S/\b≠q):Cp S q c h true (λb=>d b∨Z b) (WS.setCell (zD S 2) (.bool true)):=by
 have k:=(Du S q c h).keep _ _ _ _ g hk;obtain⟨⟨L,e1,e2,e3⟩,m,e5,n,e7⟩:=k;have o:S≠q:=λe=>by
  obtain⟨es,af,h1,_⟩:=e2;subst e;unfold Ab at e1;rw[h1]at e1; cases e1
 have f:∀b,b≠S->(WS.setCell (zD S 2) (.bool true)).heap[b]? = WS.heap[b]? := λb hb=>Al _ _ _ _ (by simpa using hb);refine⟨⟨L,?_,e2.kept (f q (Ne.symm o)),e3.imp λa l r=>(r.kept λb hb=>f b hb.2.1).mono λb hb _=>⟨Ad hb.1,hb.2⟩⟩,Ad m,Ad e5,λb hb=>?_,λ_=>i⟩
 ·have:=e1.set 2 (.bool true);simpa using this
 ·have hz:(WS.setCell (zD S 2) (.bool true)).heap.size=WS.heap.size:=by simp[World.setCell]
  rw[hz];rcases hb with hb|hb
  ·exact n b hb
  ·exact(j b hb).1
theorem Yv (S q:Nat) (l:Value) (h:List (ByteArray×Tm)) (g:Ci h) (hN:Gn h) (i:Nat) (hi:i<h.length)
  (aq:∀k (hk:k<h.length),i<k->GD (Cp S q l h) (Cq S q) S (AC (Aj h) h[k].1) h[k].1):GD (Cp S q l h) (Cq S q) S (AC (Aj h) h[i].1) h[i].1:=by
 intro f Y w hE;have I:=Aa hE;obtain⟨⟨L,m,z,E⟩,bg,bh,hY,hg⟩:=hE;obtain⟨v,F,aC⟩:=E.get g hi;obtain⟨T,j,a,c,hT,hj,rfl,aD⟩:=SD aC;have bj:=Aa E;have ar:=Aa aD;have aR:=Aa F;have aS:=Aa z;have HG:=Aa hg;have HY:=Aa hY;have hz:∀w',(zeroValue 193).run prog w'=.ok (.agg #[.string ⟨#[]⟩,zB,zA 0]) w':=λw'=>zeroValue193 w';have J:=z.lt;have aT:=m.lt;have hF:=Ju g hi;obtain⟨nm,M⟩:∃nm,h[i].1=nm:=⟨_,rfl⟩;rw[M]at F hF aR ⊢;have HF:=Aa hF;clear hF;have aU:=Aa M;have HT:=Aa hT;have bk:S≠q:=λe=>by
  obtain⟨es,bl,h1,_⟩:=z;subst e;unfold Ab at m;rw[h1]at m; cases m
 have HB:=Aa m;have b1:∀o o',((w.alloc o).alloc o').cell? (zD S 1)=some (.map (some q)):=λo o'=>((m.alloc o).alloc o').cell 1;have bm:∀o,(w.alloc o).cell? (zD S 1)=some (.map (some q)):=λo=>(m.alloc o).cell 1;have b2:∀o o',((w.alloc o).alloc o').cell? (zD S 2)=some (.bool f):=λo o'=>((m.alloc o).alloc o').cell 2;have bn:∀o,(Instr.lookup 159 (.map (some q)) (.string nm) true).run prog (w.alloc o)=.ok (.tuple #[.agg #[.string T.name,.slice a T.args.length c,zA j],.bool true]) (w.alloc o):=λo=>by
  rw[Hx (P:=prog) underlying159 underlying9 (hz _) (z.kept (BH _ _ _ J)) nm,F]; rfl
 have aV:Hid (L.length=h.length):=E.1;have hlen:∀o o',Sem.run prog (Builtin.len_ #[159] 3 #[.map (some q)]) ((w.alloc o).alloc o').drew=.ok (zA (h.length:Int)) ((w.alloc o).alloc o').drew:=λo o'=>by
  have h1:BC ((w.alloc o).alloc o').drew q L:=aS.o.below ((((Ac w.heap.size w).alloc (Ag _) o).alloc (by simp) o').drew) J;rw[Ko underlying159 h1,aV.o]
 clear m E hg hY aD F aC M hT z;cases f with
 |true=>
  go_enter func147,ntmps147;go_wp2_with fail;go_region
  all_goals go_wp2_with fail
  all_goals
   refine Ao (v:=.tuple #[.agg (zG T a c),.bool true]) (by simp[results,results147,go_sem]) rfl ?_;exact⟨T.name,a,T.args.length,c,true,true,Y,rfl,(Du S q l h).below I.o (((Ac _ _).alloc (Ag _) _).alloc (by simp) _).drew,λb hb=>Ad hb,λh=>h,(((Ak.refl _ _).alloc _).alloc _).drew,Ad ⟨rfl,T,rfl,rfl,(ar.o.later (((Ac _ _).alloc (Ag _) _).alloc (by simp) _).drew).mono λb hb _=>hb.1,λh=>by cases h⟩⟩
 |false=>
  by_cases t:j=h.length
  ·have HJ:=Aa t;have aW:Hid (AC (Aj h) nm=some T):=Aa (by rw[HF.o,HT.o,t,Nat.max_eq_left (by omega)]);have aX:((j:Int)==(h.length:Int))=true:=by rw[t]; simp
   clear t;go_enter func147,ntmps147;go_wp2_with fail;go_region
   all_goals go_wp2_with fail
   all_goals
    refine Ao (v:=.tuple #[.agg (zG T a c),.bool true]) (by simp[results,results147,go_sem]) rfl ?_;exact⟨T.name,a,T.args.length,c,true,false,Y,rfl,(Du S q l h).below I.o (((Ac _ _).alloc (Ag _) _).alloc (by simp) _).drew,λb hb=>Ad hb,λh=>h,(((Ak.refl _ _).alloc _).alloc _).drew,Ad ⟨rfl,T,rfl,rfl,(ar.o.later (((Ac _ _).alloc (Ag _) _).alloc (by simp) _).drew).mono λb hb _=>hb.1,λ_=>aW.o⟩⟩
  ·have HJ:=Aa t;have aX:((j:Int)==(h.length:Int))=false:=Dr.2 (by omega);clear t;go_enter func147,ntmps147;go_wp2_with fail;go_region
   go_wp2_with fail;have N:Hid (Below w.heap.size w ((w.alloc (.cells #[.string ⟨#[]⟩,zB] 61)).alloc (.cells #[.string T.name,.slice a T.args.length c,zA (h.length:Int)] 193)).drew):=(((Ac _ _).alloc (Ag _) _).alloc (by simp) _).drew;have R0:Hid (Ab ((w.alloc (.cells #[.string ⟨#[]⟩,zB] 61)).alloc (.cells #[.string T.name,.slice a T.args.length c,zA (h.length:Int)] 193)).drew w.heap.size #[.string ⟨#[]⟩,zB] 61):=((Ab.new w _ _).alloc _).drewN 1;have X0:Hid (Ab ((w.alloc (.cells #[.string ⟨#[]⟩,zB] 61)).alloc (.cells #[.string T.name,.slice a T.args.length c,zA (h.length:Int)] 193)).drew (w.heap.size+1) #[.string T.name,.slice a T.args.length c,zA (h.length:Int)] 193):=by
    have h1:=Ab.new (w.alloc (.cells #[.string ⟨#[]⟩,zB] 61)) #[.string T.name,.slice a T.args.length c,zA (h.length:Int)] 193;rw[BK]at h1;exact h1
   have z0:((w.alloc (.cells #[.string ⟨#[]⟩,zB] 61)).alloc (.cells #[.string T.name,.slice a T.args.length c,zA (h.length:Int)] 193)).drew.heap.size=w.heap.size+2:=(by simp);generalize ((w.alloc (.cells #[.string ⟨#[]⟩,zB] 61)).alloc (.cells #[.string T.name,.slice a T.args.length c,zA (h.length:Int)] 193)).drew=w0 at *;have aY:Hid (Do (AC (Aj h)) T=stood h i h.length hi):=Aa (by rw[HT.o];exact Yk g hN hi (Nat.max_le.2 ⟨hj,hi⟩));have O:=SC S q l h T a c w0 (λb=>Y b/\b≠S/\b≠q) Y false (λb hb hm=>by rcases hm with h|h; exact hb.2.1 h; exact hb.2.2 h) (ar.o.later N.o) ((Du S q l h).below I.o N.o) (λn2 ho hv=>by
    by_cases aE:∃k,∃hk:k<h.length,h[k].1=n2
    ·obtain⟨k,hk,rfl⟩:=aE;rw[HT.o]at ho;have h1:=Ye g hi (Nat.max_le.2 ⟨hj,hi⟩) (hN i hi) hk ho;exact aq k hk (by omega)
    ·exact SH S q l h g n2 λk hk e=>aE ⟨k,hk,e⟩)
   rw[aY.o]at O;refine O.mono ?_;clear O;rintro e w1 ⟨y,d,c',ok,f',Y',rfl,aF,ag,aZ,hx,aG,aH,aI⟩;have aJ:Hid (Ak (Cq S q) w w1):=(Ak.ofBelow N.o).trans hx;have R:∀b,Cq S q b->b<w.heap.size:=λb hb=>by rcases hb with rfl|rfl; exact aT; exact J
   have U:=Aa (R0.o.exq hx (λh=>by have:=R _ h; omega));have n:=Aa (X0.o.exq hx (λh=>by have:=R _ h; omega));have bo:Hid (w.heap.size+2<=w1.heap.size):=Aa (by have:=hx.size;omega);have V:Hid (∀b,Y' b->Y b∨w.heap.size+2<=b):=λb hb=>(ag b hb).imp id λh=>by omega
   have W:Hid (Sl w1 (λb=>w.heap.size+2<=b/\b<w1.heap.size) d y.args):=aG.mono λb hb h2=>⟨by omega,h2⟩;have A:=Aa aF;have G:Hid (∀b,Y' b->b≠w.heap.size/\b≠w.heap.size+1):=λb hb=>by
    rcases V.o b hb with h1|h1
    ·have:=HY.o b h1; omega
    ·omega
   have x0:=n.o.c0;have x1:=n.o.c1;have x2:=n.o.c2;have xf:=n.o.frozen;have aK:=Aa aH;have az:=Aa aI;clear ag hx aG aH aI aF aZ R;cases ok with
   |true=>
    obtain⟨rfl,aL,ba⟩:=aK.o rfl;have aM:=Aa aL;clear aL ba aK az;have r:∀b,b≠w.heap.size+1->((w1.setCell (zD (w.heap.size+1) 0) (.string y.name)).setCell (zD (w.heap.size+1) 1) (.slice d y.args.length c')).drew.heap[b]? = w1.heap[b]? := λb hb=>by
     show((w1.setCell (zD (w.heap.size+1) 0) (.string y.name)).setCell (zD (w.heap.size+1) 1) (.slice d y.args.length c')).heap[b]? = _;rw[Al _ _ _ _ (by simpa using hb),Al _ _ _ _ (by simpa using hb)]
    have u:((w1.setCell (zD (w.heap.size+1) 0) (.string y.name)).setCell (zD (w.heap.size+1) 1) (.slice d y.args.length c')).drew.heap.size=w1.heap.size:=(by simp[World.setCell]);obtain⟨s,bb,aN,a1,aO,aP,aQ,B⟩:=Yt (WS:=((w1.setCell (zD (w.heap.size+1) 0) (.string y.name)).setCell (zD (w.heap.size+1) 1) (.slice d y.args.length c')).drew) (Z:=λb=>w.heap.size+2<=b/\b<w1.heap.size) (c':=c') g hi A.o (λb hb=>r b (G.o b hb).2) aM.o (λb hb=>⟨by rw[u]; exact hb.2,by omega,by omega⟩) (W.o.kept λb hb=>r b (by omega)) aU.o;have a6:=Aa aN;have C:Hid (Ab s (w.heap.size+1) #[.string y.name,.slice d y.args.length c',zA (h.length:Int)] 193):=Aa (by have h1:=(n.o.set 0 (.string y.name)).set 1 (.slice d y.args.length c');unfold Ab;rw[B _ (by omega)];show((w1.setCell (zD (w.heap.size+1) 0) (.string y.name)).setCell (zD (w.heap.size+1) 1) (.slice d y.args.length c')).heap[w.heap.size+1]? = _;unfold Ab at h1;rw[h1];simp);have x:Hid (Ab s w.heap.size #[.string ⟨#[]⟩,zB] 61):=Aa (by unfold Ab;rw[B _ (by omega),r _ (by omega)];exact U.o);have a7:Hid (Ak (Cq S q) w s):=(by have h1:=((aJ.o.setNew (b:=w.heap.size+1) (by omega) 0 (.string y.name)).setNew (b:=w.heap.size+1) (by omega) 1 (.slice d y.args.length c')).drew;exact⟨aO.trans h1.os,aP.trans h1.tape,aQ.trans h1.output,by rw[a1]; exact h1.size,λb hb hn=>(B b (λe=>hn (Ae e))).trans (h1.block b hb hn)⟩);have s1:((w1.setCell (zD (w.heap.size+1) 0) (.string y.name)).setCell (zD (w.heap.size+1) 1) (.slice d y.args.length c')).cell? (zD S 1)=some (.map (some q)):=(by obtain⟨⟨L1,H,_⟩,_⟩:=A.o;exact((H.setOther _ _ (by omega)).setOther _ _ (by omega)).cell 1);have y0:((w1.setCell (zD (w.heap.size+1) 0) (.string y.name)).setCell (zD (w.heap.size+1) 1) (.slice d y.args.length c')).cell? (zD (w.heap.size+1) 0)=some (.string y.name):=(by have:=((n.o.set 0 (.string y.name)).set 1 (.slice d y.args.length c')).cell 0;simpa using this);have y1:((w1.setCell (zD (w.heap.size+1) 0) (.string y.name)).setCell (zD (w.heap.size+1) 1) (.slice d y.args.length c')).cell? (zD (w.heap.size+1) 1)=some (.slice d y.args.length c'):=(by have:=((n.o.set 0 (.string y.name)).set 1 (.slice d y.args.length c')).cell 1;simpa using this);have y2:((w1.setCell (zD (w.heap.size+1) 0) (.string y.name)).setCell (zD (w.heap.size+1) 1) (.slice d y.args.length c')).cell? (zD (w.heap.size+1) 2)=some (zA (h.length:Int)):=(by have:=((n.o.set 0 (.string y.name)).set 1 (.slice d y.args.length c')).cell 2;simpa using this);have q0:=C.o.c0;have q1:=C.o.c1;have r0:=x.o.c0;have r1:=x.o.c1;have rf:=x.o.frozen;have bp:Hid (s.heap.size=w1.heap.size):=Aa (by rw[a1,u]);have a8:Hid (Sl s (λb=>w.heap.size+2<=b/\b<w1.heap.size) d y.args):=(W.o.kept λb hb=>r b (by omega)).kept λb hb=>B b (by omega);clear aN a1 aO aP aQ B u r;go_wp2_with fail;go_region
    all_goals go_wp2_with fail
    all_goals
     refine Ao (v:=.tuple #[.agg (zG y d c'),.bool true]) (by simp[results,results147,go_sem,AK,AB,r0,r1]) rfl ?_;have D:∀b,b≠w.heap.size->((s.setCell (zD w.heap.size 0) (.string y.name)).setCell (zD w.heap.size 1) (.slice d y.args.length c')).heap[b]? = s.heap[b]? := λb hb=>by
      rw[Al _ _ _ _ (by simpa using hb),Al _ _ _ _ (by simpa using hb)]
     refine⟨y.name,d,y.args.length,c',true,false,_,rfl,(Du S q l h).keep _ _ _ _ a6.o (λb hb=>D b ?_),λb hb=>?_,λh=>h,(a7.o.setNew (by omega) _ _).setNew (by omega) _ _,Ad ⟨rfl,y,rfl,rfl,(a8.o.kept λb hb=>D b (by omega)).mono λb hb _=>Ae hb,λ_=>by rw[HF.o,aM.o]⟩⟩
     ·rcases hb with hb|hb
      ·exact(G.o b hb).1
      ·omega
     ·rcases hb with hb|hb
      ·exact(V.o b hb).imp id λh=>by omega
      ·right; omega
   |false=>
    have bc:Hid (AU (Aj h)=true):=by
     rcases az.o rfl with h1|h1
     ·exact A.o.2.2.2.2 h1
     ·exact Sv g hi h1
    have r:∀b,b≠w.heap.size+1->((w1.setCell (zD (w.heap.size+1) 0) (.string y.name)).setCell (zD (w.heap.size+1) 1) (.slice d y.args.length c')).heap[b]? = w1.heap[b]? := λb hb=>by
     rw[Al _ _ _ _ (by simpa using hb),Al _ _ _ _ (by simpa using hb)]
    have u:((w1.setCell (zD (w.heap.size+1) 0) (.string y.name)).setCell (zD (w.heap.size+1) 1) (.slice d y.args.length c')).heap.size=w1.heap.size:=(by simp[World.setCell]);have a6:=Aa (Yu (WS:=((w1.setCell (zD (w.heap.size+1) 0) (.string y.name)).setCell (zD (w.heap.size+1) 1) (.slice d y.args.length c'))) (Z:=λb=>w.heap.size+2<=b/\b<w1.heap.size) A.o (λb hb=>r b (G.o b hb).2) bc.o (λb hb=>⟨by rw[u]; exact hb.2,by omega,by omega⟩));obtain⟨⟨L1,H,bd,aA⟩,aB,ad⟩:=A.o;have BS:=Aa ((H.setOther (b':=w.heap.size+1) 0 (.string y.name) (by omega)).setOther (b':=w.heap.size+1) 1 (.slice d y.args.length c') (by omega));have C:=Aa ((n.o.set 0 (.string y.name)).set 1 (.slice d y.args.length c'));have x:=Aa ((U.o.setOther (b':=w.heap.size+1) 0 (.string y.name) (by omega)).setOther (b':=w.heap.size+1) 1 (.slice d y.args.length c') (by omega));have a7:=Aa ((aJ.o.setNew (b:=w.heap.size+1) (by omega) 0 (.string y.name)).setNew (b:=w.heap.size+1) (by omega) 1 (.slice d y.args.length c'));have a8:Hid (Sl ((w1.setCell (zD (w.heap.size+1) 0) (.string y.name)).setCell (zD (w.heap.size+1) 1) (.slice d y.args.length c')) (λb=>w.heap.size+2<=b/\b<w1.heap.size) d y.args):=W.o.kept λb hb=>r b (by omega);have s2:((w1.setCell (zD (w.heap.size+1) 0) (.string y.name)).setCell (zD (w.heap.size+1) 1) (.slice d y.args.length c')).cell? (zD S 2)=some (.bool f'):=BS.o.cell 2;have sf:=BS.o.frozen 2;have y0:(((w1.setCell (zD (w.heap.size+1) 0) (.string y.name)).setCell (zD (w.heap.size+1) 1) (.slice d y.args.length c')).setCell (zD S 2) (.bool true)).cell? (zD (w.heap.size+1) 0)=some (.string y.name):=(by have:=(C.o.setOther (b':=S) 2 (.bool true) (by omega)).cell 0;simpa using this);have y1:(((w1.setCell (zD (w.heap.size+1) 0) (.string y.name)).setCell (zD (w.heap.size+1) 1) (.slice d y.args.length c')).setCell (zD S 2) (.bool true)).cell? (zD (w.heap.size+1) 1)=some (.slice d y.args.length c'):=(by have:=(C.o.setOther (b':=S) 2 (.bool true) (by omega)).cell 1;simpa using this);have r0:(((w1.setCell (zD (w.heap.size+1) 0) (.string y.name)).setCell (zD (w.heap.size+1) 1) (.slice d y.args.length c')).setCell (zD S 2) (.bool true)).cell? (zD w.heap.size 0)=some (.string ⟨#[]⟩):=(x.o.setOther (b':=S) 2 (.bool true) (by omega)).cell 0;have r1:(((w1.setCell (zD (w.heap.size+1) 0) (.string y.name)).setCell (zD (w.heap.size+1) 1) (.slice d y.args.length c')).setCell (zD S 2) (.bool true)).cell? (zD w.heap.size 1)=some (zB):=(x.o.setOther (b':=S) 2 (.bool true) (by omega)).cell 1;have rf:=U.o.frozen;have bq:w.heap.size+1≠S:=(by omega);have bf:w.heap.size≠S:=(by omega);clear H bd aA aB ad az r u;go_wp2_with fail;refine Ao (v:=.tuple #[.agg (zG y d c'),.bool true]) (by simp[results,results147,go_sem,AK,AB,r0,r1]) rfl ?_;have D:∀b,b≠w.heap.size->(((((w1.setCell (zD (w.heap.size+1) 0) (.string y.name)).setCell (zD (w.heap.size+1) 1) (.slice d y.args.length c')).setCell (zD S 2) (.bool true)).setCell (zD w.heap.size 0) (.string y.name)).setCell (zD w.heap.size 1) (.slice d y.args.length c')).heap[b]? = (((w1.setCell (zD (w.heap.size+1) 0) (.string y.name)).setCell (zD (w.heap.size+1) 1) (.slice d y.args.length c')).setCell (zD S 2) (.bool true)).heap[b]? := λb hb=>by
     rw[Al _ _ _ _ (by simpa using hb),Al _ _ _ _ (by simpa using hb)]
    refine⟨y.name,d,y.args.length,c',true,true,_,rfl,(Du S q l h).keep _ _ _ _ a6.o (λb hb=>D b ?_),λb hb=>?_,λh=>rfl,((a7.o.set (Ad rfl) _ _).setNew (by omega) _ _).setNew (by omega) _ _,Ad ⟨rfl,y,rfl,rfl,((a8.o.kept λb hb=>Al _ _ _ _ (by simp; omega)).kept λb hb=>D b (by omega)).mono λb hb _=>Ae hb,λh=>by cases h⟩⟩
    ·rcases hb with hb|hb
     ·exact(G.o b hb).1
     ·omega
    ·rcases hb with hb|hb
     ·exact(V.o b hb).imp id λh=>by omega
     ·right; omega
theorem SI (S q:Nat) (a:Value) (h:List (ByteArray×Tm)) (g:Ci h) (b:Gn h):∀(d i:Nat) (hi:i<h.length),h.length-i<=d->GD (Cp S q a h) (Cq S q) S (AC (Aj h) h[i].1) h[i].1
 |0,i,hi,hd=>by omega
 |d+1,i,hi,hd=>Yv S q a h g b i hi λk hk aa=>SI S q a h g b d k hk (by omega)
theorem Yw (S q:Nat) (a:Value) (h:List (ByteArray×Tm)) (g:Ci h) (c:Gn h) (nm:ByteArray):GD (Cp S q a h) (Cq S q) S (AC (Aj h) nm) nm:=by
 by_cases b:∃k,∃hk:k<h.length,h[k].1=nm
 ·obtain⟨k,hk,rfl⟩:=b;exact SI S q a h g c _ k hk (Ag _)
 ·exact SH S q a h g nm λk hk e=>b ⟨k,hk,e⟩
theorem N4 (S q:Nat) (d:Value) (h:List (ByteArray×Tm)) (g:Ci h) (i:Gn h) (t:Tm) (he:As [t]=0) (a:Option Addr) (c:Nat) (w:World) (X Y:Nat->Prop) (f:Bool) (j:∀b,X b->¬Cq S q b) (k:Sl w X a t.args) (l:Cp S q d h f Y w):
  Calls prog 140 #[zC S,.agg (zG t a c)] w λe w'=>NZ S q d h (Af (Aj h) t) f Y w e w':=by
 have h1:=SC S q d h t a c w X Y f j k l λnm _ _=>Yw S q d h g i nm;rw[Sq g.all.vars he]at h1;exact h1
theorem SJ {α:Type}:∀(l V:List α),l.Nodup->(∀x∈l,x∈V)->l.length<=V.length
 | [],V,_,_=>by simp
 |a::l,V,h,b=>by
  classical
  obtain⟨h1,h2⟩:=List.nodup_cons.1 h;have ih:=SJ l (V.filter λx=>decide (x≠a)) h2 λx hx=>List.mem_filter.2 ⟨b x (by simp[hx]),by simp; rintro rfl; exact h1 hx⟩;have c:=NV (p:=λ_=>true) (q:=λx=>decide (x≠a)) V (λ_ _ _=>rfl) ⟨a,b a (by simp),rfl,by simp⟩;have e:V.filter (λ_=>true)=V:=List.filter_eq_self.2 (by simp);rw[e]at c;simp only[Cg];omega
structure UI (V:List ByteArray) (h:List (ByteArray×Tm)) (l:List Pr):Prop where
 good:Ci h
 names:Gn h
 inV:∀i (hi:i<h.length),h[i].1∈V
 err:As (AL l)=0
 vars:∀y,Av y=true->Ax y (An (Aj h) (AL l))->y∈V
 size:∀p∈l,Ah [p.l]<=2000/\Ah [p.r]<=2000
 len:∃l1 l2,l=l1++l2/\(∀p∈l1,Af (Aj h) p.l=p.l/\Af (Aj h) p.r=p.r)/\Ah (l1.map (·.l))<=2000/\l2.length<=40+2000*h.length
theorem UI.hlen {V:List ByteArray} {h:List (ByteArray×Tm)} {l:List Pr} (u:UI V h l):h.length<=V.length:=by
 have h1:=SJ (h.map (·.1)) V ?_ ?_
 ·simpa using h1
 ·rw[Oz,Hr,KK];intro i j hi a aa e;have:=u.good.once hi a e;omega
 ·intro x hx;obtain⟨p,hp,rfl⟩:=Cv.1 hx;obtain⟨i,hi,rfl⟩:=IW hp;exact u.inV i hi
theorem N5:∀l:List Pr,l.length<=Ah (l.map (·.l))
 | []=>by simp
 |p::l=>by
  have:=N5 l;rw[Cu,Fe];have:=Lr p.l;simp only[Cg];omega
theorem UI.llen {V:List ByteArray} {h:List (ByteArray×Tm)} {l:List Pr} (u:UI V h l):l.length<=2040+2000*V.length:=by
 obtain⟨l1,l2,rfl,_,h2,h3⟩:=u.len;have h4:=N5 l1;have h5:=u.hlen;rw[Ed];have:2000*h.length<=2000*V.length:=Nat.mul_le_mul_left _ h5;omega
theorem UI.start {l:List Pr} (he:As (AL l)=0) (a:∀p∈l,Ah [p.l]<=2000/\Ah [p.r]<=2000) (b:l.length<=40):UI ((Aw (An [] (AL l))).map (·.name)) [] l:=
 ⟨Yc,λi hi=>by simp at hi,λi hi=>by simp at hi,he,λy _ ho=>by obtain⟨k,hk,e⟩:=ho; exact Cv.2 ⟨k,hk,e⟩,a,[],l,rfl,by simp,by simp[Ah],by simpa using b⟩
theorem UI.drop {V:List ByteArray} {h:List (ByteArray×Tm)} {p:Pr} {l:List Pr} (u:UI V h (p::l)):UI V h l:=by
 obtain⟨g1,g2,g3,g4,g5,g6,l1,l2,e,g7,g8,g9⟩:=u;rw[AL]at g4 g5;refine⟨g1,g2,g3,(CW.1 (CW.1 g4).2).2,λy hy ho=>g5 y hy ?_,λq hq=>g6 q (by simp[hq]),?_⟩
 ·rw[Br,Br];exact Ch.2 (Ae (Ch.2 (Ae ho)))
 ·cases l1 with
  |nil=>
   cases l2 with
   |nil=>cases e
   |cons q l2=>simp only[GK,FT] at e;obtain⟨rfl,rfl⟩:=e;simp only[Cg] at g9;exact⟨[],l,rfl,by simp,by simp[Ah],by omega⟩
  |cons q l1=>simp only[Di,FT] at e;obtain⟨rfl,rfl⟩:=e;rw[Cu,Fe]at g8;exact⟨l1,l2,rfl,λq hq=>g7 q (by simp[hq]),by omega,g9⟩
theorem UI.head {V:List ByteArray} {h:List (ByteArray×Tm)} {p:Pr} {l:List Pr} (u:UI V h (p::l)):As [p.l]=0/\As [p.r]=0:=by
 have g:=u.err;rw[AL]at g;exact⟨(CW.1 g).1,(CW.1 (CW.1 g).2).1⟩
theorem Id (u:Tm):Ax u.name [u]:=by obtain⟨n,k⟩:=u; exact Dt.2 (Ad rfl)
theorem GE {u:Tm} {y:ByteArray} (h:Ax y u.args):Ax y [u]:=by obtain⟨n,k⟩:=u; exact Dt.2 (Ae (Ad h))
theorem FK {u:Tm} (h:As [u]=0):As u.args=0:=by obtain⟨n,k⟩:=u; exact(Gy h).2.1
theorem Jw (u:Tm):Ah [u]=1+Ah u.args:=by obtain⟨n,k⟩:=u; simp[Ah]
theorem SL {u:Tm} (h:As [u]=0):ET u.name=true:=by obtain⟨n,k⟩:=u; exact Qn h
theorem UI.bindV {V:List ByteArray} {h:List (ByteArray×Tm)} {p:Pr} {l:List Pr} (u:UI V h (p::l)) {x:ByteArray} {t:Tm} (hx:Av x=true) (n:(x=(Af (Aj h) p.l).name/\t=Af (Aj h) p.r)∨(x=(Af (Aj h) p.r).name/\t=Af (Aj h) p.l)) (ho:¬Cd x (AR [] (Aw [t]))=true):
  Gk (Aj h) x t/\UI V (h++[(x,t)]) l:=by
 have ok:=u.good.all;obtain⟨e1,e2⟩:=u.head;have b:=EN ok e1;have c:=EN ok e2;have f:=ok.goneT e1;have g:=ok.goneT e2;have a:=u.vars;rw[AL,Br,Br]at a;have e3:As (AL l)=0:=u.drop.err;have both:(∀d∈Aj h,d.nm≠x)/\As [t]=0/\(∀e∈Aj h,¬Ax e.nm [t])/\ET x=true/\x∈V/\(∀y,Ax y [t]->Ax y (Af (Aj h) p.l::Af (Aj h) p.r::An (Aj h) (AL l))):=by
  rcases n with ⟨rfl,rfl⟩|⟨rfl,rfl⟩
  ·exact⟨λd hd e=>f d hd (by rw[e]; exact Id _),c,g,SL b,a _ hx (Ch.2 (Ad (Id _))),λy hy=>Ch.2 (Ae (Ch.2 (Ad hy)))⟩
  ·exact⟨λd hd e=>g d hd (by rw[e]; exact Id _),b,f,SL c,a _ hx (Ch.2 (Ae (Ch.2 (Ad (Id _))))),λy hy=>Ch.2 (Ad hy)⟩
 obtain⟨j,k,m,o,q,s⟩:=both;have hoc:=Km hx ho;have may:Gk (Aj h) x t:=⟨hx,j,k,m,hoc⟩;obtain⟨f1,f2,f3⟩:=NW (L:=AL l) ok hx j k m hoc e3;refine⟨may,u.good.snoc may,λi hi=>?_,λi hi=>?_,e3,λy hy hoc=>?_,u.drop.size,[],l,rfl,by simp,by simp[Ah],?_⟩
 ·by_cases e:i<h.length
  ·rw[KJ e]; exact u.names i e
  ·have:i=h.length:=by simp at hi; omega
   subst this;simpa using o
 ·by_cases e:i<h.length
  ·rw[KJ e]; exact u.inV i e
  ·have:i=h.length:=by simp at hi; omega
   subst this;simpa using q
 ·rw[Ff]at hoc;rcases f2 y hy hoc with h1|h1
  ·exact a y hy (Ch.2 (Ae (Ch.2 (Ae h1))))
  ·exact a y hy (s y h1)
 ·obtain⟨l1,l2,e,g7,g8,g9⟩:=u.len;have h4:=N5 l1;have h5:l.length+1=l1.length+l2.length:=by rw[<-Ed,<-e]; simp
  simp only[Ed,Cg,Ee];omega
theorem Mq:∀ {a b:List Tm} {p:Pr},p∈Az a b->p.l∈a/\p.r∈b
 | [],_,p,h=>by simp[Az] at h
 |_::_,[],p,h=>by simp[Az] at h
 |t::a,u::b,p,h=>by
  rw[Az]at h;rcases Cn.1 h with rfl|h
  ·exact⟨by simp,by simp⟩
  ·have:=Mq h;exact⟨by simp[this.1],by simp[this.2]⟩
theorem N6:∀ {a b:List Tm},a.length=b.length->(Az a b).map (·.l)=a
 | [],[],_=>rfl
 | [],_::_,h=>by simp at h
 |_::_,[],h=>by simp at h
 |t::a,u::b,h=>by rw[Az,Cu,N6 (by simpa using h)]
theorem SM {l:List Tm} {t:Tm} (h:t∈l):Ah [t]<=Ah l:=by
 induction l with
 |nil=>cases h
 |cons a r b=>
  have hc:=Fe a r;rcases Cn.1 h with rfl|h
  ·omega
  ·have:=b h; omega
theorem Jy {s:List Bd} {t:Tm} (h:∀e∈s,¬Ax e.nm [t]):Af s t=t:=by
 have h1:=Iw [t] h;rw[Br]at h1;simpa [An] using h1
theorem SN {y:ByteArray} {l:List Tm} {t:Tm} (h:t∈l) (ho:Ax y [t]):Ax y l:=by
 induction l with
 |nil=>cases h
 |cons a r b=>
  rcases Cn.1 h with rfl|h
  ·exact Ch.2 (Ad ho)
  ·exact Ch.2 (Ae (b h))
theorem UI.deep {V:List ByteArray} {h:List (ByteArray×Tm)} {p:Pr} {l:List Pr} (u:UI V h (p::l)) (ha:Ah [Af (Aj h) p.l]<=2000) (hb:Ah [Af (Aj h) p.r]<=2000) (c:(Af (Aj h) p.l).args.length=(Af (Aj h) p.r).args.length):
  UI V h (Az (Af (Aj h) p.l).args (Af (Aj h) p.r).args++l)/\∀q∈Az (Af (Aj h) p.l).args (Af (Aj h) p.r).args,Af (Aj h) q.l=q.l/\Af (Aj h) q.r=q.r:=by
 have ok:=u.good.all;obtain⟨e1,e2⟩:=u.head;have g:=EN ok e1;have i:=EN ok e2;have d:=ok.goneT e1;have f:=ok.goneT e2;have a:=u.vars;rw[AL,Br,Br]at a;have b:∀q∈Az (Af (Aj h) p.l).args (Af (Aj h) p.r).args,Af (Aj h) q.l=q.l/\Af (Aj h) q.r=q.r:=λq hq=>by
  obtain⟨m1,m2⟩:=Mq hq;exact⟨Jy λe he ho=>d e he (GE (SN m1 ho)),Jy λe he ho=>f e he (GE (SN m2 ho))⟩
 have j:=Jw (Af (Aj h) p.l);have sb:=Jw (Af (Aj h) p.r);refine⟨⟨u.good,u.names,u.inV,?_,λy hy ho=>?_,λq hq=>?_,?_⟩,b⟩
 ·rw[Hc];exact Jr.2 ⟨Js (FK g) (FK i),u.drop.err⟩
 ·rw[Hc,Iq]at ho;rcases LP.1 ho with ho|ho
  ·rw[Iw]at ho
   ·rcases IK ho with ho|ho
    ·exact a y hy (Ch.2 (Ad (GE ho)))
    ·exact a y hy (Ch.2 (Ae (Ch.2 (Ad (GE ho)))))
   ·intro e he hoc;rcases IK hoc with hoc|hoc
    ·exact d e he (GE hoc)
    ·exact f e he (GE hoc)
  ·exact a y hy (Ch.2 (Ae (Ch.2 (Ae ho))))
 ·rcases BJ.1 hq with hq|hq
  ·obtain⟨m1,m2⟩:=Mq hq;have:=SM m1;have:=SM m2;omega
  ·exact u.size q (by simp[hq])
 ·obtain⟨l1,l2,e,g7,g8,g9⟩:=u.len;cases l1 with
  |nil=>
   cases l2 with
   |nil=>cases e
   |cons q l2=>simp only[GK,FT] at e;obtain⟨rfl,rfl⟩:=e;simp only[Cg] at g9;exact⟨_,l,rfl,b,by rw[N6 c]; omega,by omega⟩
  |cons q l1=>
   simp only[Di,FT] at e;obtain⟨rfl,rfl⟩:=e;rw[Cu,Fe]at g8;have hp:=(g7 p (by simp)).1;refine⟨Az (Af (Aj h) p.l).args (Af (Aj h) p.r).args++l1,l2,by rw[IX],λq hq=>?_,?_,g9⟩
   ·rcases BJ.1 hq with hq|hq
    ·exact b q hq
    ·exact g7 q (by simp[hq])
   ·rw[CY,FW,N6 c];rw[hp]at j ⊢;omega
