import Derived.Deep.MidRow
import Derived.Test.YthaililgaompeaaGreatDoorZLTopNewmanOwn
import Derived.Deep.RegionHeld3
import Derived.Deep.RegionHeld
import Derived.RegionTactic
import Derived.ChangeAlike
namespace Go.Proofs.YthaililgaompeaaGreatDoor
set_option linter.all false
set_option maxRecDepth 20000
set_option maxHeartbeats 8000000
open Go.RowKit Go.Shelf Go.Proofs.Tryz
attribute [local go_sem] Ho
variable {B N T r:Nat} {β:Type} {rs:List Pr} {b t x:Tm} {a:Option Addr} {e:Ending} {S l:List Tm} {w w' w1 w2:World} {X Y:Nat->Prop} {v:Value} {xs:List Value} {row:List ByteArray}
theorem Qw {P:Program} {ops:Array Oper} {Q:Exit->Act->World->Prop} {l n:Nat}:∀(os:List Oper),(∀o∈os,∀c,o.op≠.defer c)->∀ {a:Act} {w:World},wpList P ops (Li Q) os a w->wpListIn (Fence.wide.inRound l) n P ops Q os a w
 | [],_,a,w,h=>h.2
 |o::rest,aa,a,w,h=>by
  unfold wpList at h;unfold wpListIn;split at h;next hw=>
   rw[Ao hw];rcases h with h|h
   ·exact Oper.wpIn_mono (λa' w' h'=>Qw rest (λo ho=>aa o (by simp[ho])) h') (Ss (aa o (by simp)) h)
   ·exact absurd h.2 (OY Q)
  next hw=>
   rw[Ah hw];exact⟨λf _=>trivial,Qw rest (λo ho=>aa o (by simp[ho])) h⟩
theorem pN {A f:Nat} {G:Nat->Prop} {all:List Ch}:Hv (Qg FH A B f G all):=by
 rintro W W' ⟨y,cs,Z,h1,c,e,g,a⟩ hz hk;have hb:∀(b:Nat) (cs:Array Value) (T:TypeId) (z:Nat×Nat),W.heap[b]? = some (Obj.cells cs T z)->W'.heap[b]? = W.heap[b]? := λb cs T z h=>by
  rcases hk b (CO.1 h).1 with h2|⟨r,h2⟩|⟨d,h2⟩
  ·exact h2
  ·rw[h]at h2; cases h2
  ·rw[h]at h2; cases h2
 refine⟨y,cs,λb=>Z b/\GM W b,h1,(hb _ _ _ _ c).trans c,(hb _ _ _ _ e).trans e,VW (VV g) (λb h=>?_),λb h=>⟨by have:=(a b h.1).1; omega,(a b h.1).2⟩⟩;rcases hk b (a b h.1).1 with h3|⟨r,h3⟩|⟨d,h3⟩
 ·exact h3
 ·exact absurd h3 (h.2.1 r)
 ·exact absurd h3 (h.2.2 d)
theorem pO (rs:List Pr) (t:Tm) (N:List Int) (P R T F:Nat) (uv:Value) (aa:Option Addr) (ca:Nat) (fv:Value) (w:World) (X G:Nat->Prop) (hP:Ac w P #[.func (.func 60) #[] #[zC T,zC F]] 80) (hR:Ac w R #[uv] 23) (hu:QV w X uv rs) (hT:Ac w T (zF t aa ca) 31) (hs:Sl w X aa t.args) (hF:Ac w F #[fv] 22) (aN:PV w X fv N) (aO:(AA t N).isSome=true) (hX:∀b,X b->b<w.heap.size/\¬G b) (hG:∀b,G b->b<w.heap.size/\b≠R) (aP:Ab [t]<=800000):
  Calls prog 37 #[.func (.func 58) #[] #[zC P,zC R]] w λe w'=>VX FH #[zB,.string ⟨#[]⟩,zB,.string ⟨#[]⟩,zB,.map none] G (Ct rs t N) w e w':=by
 have HX:=Aa hX;have HG:=Aa hG;have HU:=Aa hu;have HS:=Aa hs;have HR:=Aa hR;have HT:=Aa hT;have HP:=Aa hP;have HF:=Aa hF;have bo:=Aa aN;have bp:=Aa aO;have bq:=Aa aP;clear hP hF aN aO aP;clear hX hG hu hs hR hT;refine(CP (n:=3)).1 ?_;refine callsIn_of_wp_marks func37 rfl trivial ?_ rfl;simp only[ntmps37,Js,Bg,DB,Nat.reduceAdd,Nat.reduceSub,Jt,Ju,Jv,Jw,CE,Bj];gi_wp2
 refine La (gf:=58) (lb:=#[zC P,zC R]) rfl (enters_of func58 (by kernel_rfl) rfl) ?_;intro r aw ax ay az a6 a7;have a8:((w.alloc (zh #[zB,.string ⟨#[]⟩,zB,.string ⟨#[]⟩,zB,.map none] 73)).alloc (zh #[.bool false] 4)).heap.size=w.heap.size+2:=by simp
 rw[a8];have aQ:w.heap.size+2+1=w.heap.size+3:=rfl;rw[aQ];clear aQ;have aR:((((w.alloc (zh #[zB,.string ⟨#[]⟩,zB,.string ⟨#[]⟩,zB,.map none] 73)).alloc (zh #[.bool false] 4)).alloc (.deferred (some []))).alloc (.loop r))=G5 w [(.cells #[zB,.string ⟨#[]⟩,zB,.string ⟨#[]⟩,zB,.map none] 73:Obj),(.cells #[.bool false] 4:Obj),(.deferred (some []):Obj),(.loop r:Obj)]:=rfl;have H:=Aa (Fe [(.cells #[zB,.string ⟨#[]⟩,zB,.string ⟨#[]⟩,zB,.map none] 73:Obj),(.cells #[.bool false] 4:Obj),(.deferred (some []):Obj),(.loop r:Obj)] w);rw[<-aR]at H;clear aR;generalize ((((w.alloc (zh #[zB,.string ⟨#[]⟩,zB,.string ⟨#[]⟩,zB,.map none] 73)).alloc (zh #[.bool false] 4)).alloc (.deferred (some []))).alloc (.loop r))=A at *;have bO:A.heap.size=w.heap.size+4:=H.o.2.1;have u:Hid (Below w.heap.size w A):=H.o.1;have H0:Hid (Ac A w.heap.size #[zB,.string ⟨#[]⟩,zB,.string ⟨#[]⟩,zB,.map none] 73):=H.o.2.2 0 _ rfl;have H1:Hid (Ac A (w.heap.size+1) #[.bool false] 4):=H.o.2.2 1 _ rfl;have H2:Hid (A.heap[w.heap.size+2]? = some (.deferred (some []))):=H.o.2.2 2 _ rfl;have H3:Hid (A.heap[w.heap.size+3]? = some (.loop r)):=H.o.2.2 3 _ rfl;clear H;obtain⟨rd,aA⟩:∃rd:Loop,rd={ r with state:=.done,pending:=some .ret}:=⟨_,rfl⟩;obtain⟨rb,aS⟩:∃rb:Loop,rb={ r with state:=.busy}:=⟨_,rfl⟩;have RH:Hu (w.heap.size+3) FH (JF (α:=Ch) w.heap.size (w.heap.size+1) (w.heap.size+3) 73 #[zB,.string ⟨#[]⟩,zB,.string ⟨#[]⟩,zB,.map none] G r rd A) (Ct rs t N) (Qg FH w.heap.size (w.heap.size+1) 73 G (Ct rs t N)):=by
  have br:=Aa aw;have bs:=Aa ax;have bt:=Aa ay;have bu:=Aa az;have bw:=Aa a6;have bx:=Aa a7;clear aw ax ay az a6 a7 a8;intro n pre x args Z f W aj hj hl Y;obtain⟨hf,aT,bP,hC,hL,L,M,aU⟩:=hj;obtain⟨rfl,aV,aW⟩:=aU rfl;rw[CE]at aj;simp only[F4] at hL;obtain⟨ua,uc,c,d,ra,rc,q,Lm,rfl,aX,aY,aZ,hq,aB⟩:=hl;have an:Hid (∀W',(∀b,Z b->W'.heap[b]? = W.heap[b]?)->FH x #[.agg #[.slice ua x.1.1.length uc,.string x.1.2.name,.slice c x.1.2.args.length d,.string x.2.1.r.name,.slice ra x.2.1.r.args.length rc,.map (some q)]] W' Z):=λW' k9=>⟨ua,uc,c,d,ra,rc,q,Lm,rfl,aX.kept k9,aY.kept k9,aZ.kept k9,hq,aB.1.kept (k9 q hq),aB.2.imp λa l hs=>hs.kept k9⟩;have aC:=Aa aj;have I:=Aa hf;have bz:=Aa aT;have HC:=Aa hC;have HZ:=Aa Y;have HA:=Aa aV;have HB:=Aa aW;have b1:w.heap.size+3<W.heap.size:=(CO.1 hL).1;clear aj hf aT hC Y aV aW aZ aB hq aU aX aY;refine JU aS aA bw.o bx.o bu.o bt.o hL br.o bs.o rfl ?_;have ba:(W.alloc (zh #[.slice ua x.1.1.length uc,.string x.1.2.name,.slice c x.1.2.args.length d,.string x.2.1.r.name,.slice ra x.2.1.r.args.length rc,.map (some q)] 73)).heap[w.heap.size+3]? = some (.loop r):=(Ay _ _ _ b1).trans hL;have kV:∀b,b<W.heap.size->b≠w.heap.size+3->((W.alloc (zh #[.slice ua x.1.1.length uc,.string x.1.2.name,.slice c x.1.2.args.length d,.string x.2.1.r.name,.slice ra x.2.1.r.args.length rc,.map (some q)] 73)).putObj (w.heap.size+3) (.loop rb)).heap[b]? = W.heap[b]? := λb hb hne=>(World.putObj_heap_other hne).trans (Ay _ _ _ hb);have bQ:((W.alloc (zh #[.slice ua x.1.1.length uc,.string x.1.2.name,.slice c x.1.2.args.length d,.string x.2.1.r.name,.slice ra x.2.1.r.args.length rc,.map (some q)] 73)).putObj (w.heap.size+3) (.loop rb)).heap.size=W.heap.size+1:=by simp
  have J:Ac ((W.alloc (zh #[.slice ua x.1.1.length uc,.string x.1.2.name,.slice c x.1.2.args.length d,.string x.2.1.r.name,.slice ra x.2.1.r.args.length rc,.map (some q)] 73)).putObj (w.heap.size+3) (.loop rb)) W.heap.size #[.slice ua x.1.1.length uc,.string x.1.2.name,.slice c x.1.2.args.length d,.string x.2.1.r.name,.slice ra x.2.1.r.args.length rc,.map (some q)] 73:=(World.putObj_heap_other (by omega)).trans (Ac.new W _ _);have bb:((W.alloc (zh #[.slice ua x.1.1.length uc,.string x.1.2.name,.slice c x.1.2.args.length d,.string x.2.1.r.name,.slice ra x.2.1.r.args.length rc,.map (some q)] 73)).putObj (w.heap.size+3) (.loop rb)).heap[w.heap.size+3]? = some (.loop rb):=World.putObj_heap_same (by simp; omega);have B:Ac ((W.alloc (zh #[.slice ua x.1.1.length uc,.string x.1.2.name,.slice c x.1.2.args.length d,.string x.2.1.r.name,.slice ra x.2.1.r.args.length rc,.map (some q)] 73)).putObj (w.heap.size+3) (.loop rb)) w.heap.size #[zB,.string ⟨#[]⟩,zB,.string ⟨#[]⟩,zB,.map none] 73:=(kV _ L (by omega)).trans HA.o;have au:Ac ((W.alloc (zh #[.slice ua x.1.1.length uc,.string x.1.2.name,.slice c x.1.2.args.length d,.string x.2.1.r.name,.slice ra x.2.1.r.args.length rc,.map (some q)] 73)).putObj (w.heap.size+3) (.loop rb)) (w.heap.size+1) #[.bool false] 4:=(kV _ M (by omega)).trans HB.o;have c0:((W.alloc (zh #[.slice ua x.1.1.length uc,.string x.1.2.name,.slice c x.1.2.args.length d,.string x.2.1.r.name,.slice ra x.2.1.r.args.length rc,.map (some q)] 73)).putObj (w.heap.size+3) (.loop rb)).cell? (zD W.heap.size 0)=some (.slice ua x.1.1.length uc):=J.cell 0;have c1:((W.alloc (zh #[.slice ua x.1.1.length uc,.string x.1.2.name,.slice c x.1.2.args.length d,.string x.2.1.r.name,.slice ra x.2.1.r.args.length rc,.map (some q)] 73)).putObj (w.heap.size+3) (.loop rb)).cell? (zD W.heap.size 1)=some (.string x.1.2.name):=J.cell 1;have c2:((W.alloc (zh #[.slice ua x.1.1.length uc,.string x.1.2.name,.slice c x.1.2.args.length d,.string x.2.1.r.name,.slice ra x.2.1.r.args.length rc,.map (some q)] 73)).putObj (w.heap.size+3) (.loop rb)).cell? (zD W.heap.size 2)=some (.slice c x.1.2.args.length d):=J.cell 2;have c3:((W.alloc (zh #[.slice ua x.1.1.length uc,.string x.1.2.name,.slice c x.1.2.args.length d,.string x.2.1.r.name,.slice ra x.2.1.r.args.length rc,.map (some q)] 73)).putObj (w.heap.size+3) (.loop rb)).cell? (zD W.heap.size 3)=some (.string x.2.1.r.name):=J.cell 3;have c4:((W.alloc (zh #[.slice ua x.1.1.length uc,.string x.1.2.name,.slice c x.1.2.args.length d,.string x.2.1.r.name,.slice ra x.2.1.r.args.length rc,.map (some q)] 73)).putObj (w.heap.size+3) (.loop rb)).cell? (zD W.heap.size 4)=some (.slice ra x.2.1.r.args.length rc):=J.cell 4;have c5:((W.alloc (zh #[.slice ua x.1.1.length uc,.string x.1.2.name,.slice c x.1.2.args.length d,.string x.2.1.r.name,.slice ra x.2.1.r.args.length rc,.map (some q)] 73)).putObj (w.heap.size+3) (.loop rb)).cell? (zD W.heap.size 5)=some (.map (some q)):=J.cell 5;have a0:((W.alloc (zh #[.slice ua x.1.1.length uc,.string x.1.2.name,.slice c x.1.2.args.length d,.string x.2.1.r.name,.slice ra x.2.1.r.args.length rc,.map (some q)] 73)).putObj (w.heap.size+3) (.loop rb)).cell? (zD w.heap.size 0)=some (zB):=B.cell 0;have a1:((W.alloc (zh #[.slice ua x.1.1.length uc,.string x.1.2.name,.slice c x.1.2.args.length d,.string x.2.1.r.name,.slice ra x.2.1.r.args.length rc,.map (some q)] 73)).putObj (w.heap.size+3) (.loop rb)).cell? (zD w.heap.size 1)=some (.string ⟨#[]⟩):=B.cell 1;have a2:((W.alloc (zh #[.slice ua x.1.1.length uc,.string x.1.2.name,.slice c x.1.2.args.length d,.string x.2.1.r.name,.slice ra x.2.1.r.args.length rc,.map (some q)] 73)).putObj (w.heap.size+3) (.loop rb)).cell? (zD w.heap.size 2)=some (zB):=B.cell 2;have a3:((W.alloc (zh #[.slice ua x.1.1.length uc,.string x.1.2.name,.slice c x.1.2.args.length d,.string x.2.1.r.name,.slice ra x.2.1.r.args.length rc,.map (some q)] 73)).putObj (w.heap.size+3) (.loop rb)).cell? (zD w.heap.size 3)=some (.string ⟨#[]⟩):=B.cell 3;have a4:((W.alloc (zh #[.slice ua x.1.1.length uc,.string x.1.2.name,.slice c x.1.2.args.length d,.string x.2.1.r.name,.slice ra x.2.1.r.args.length rc,.map (some q)] 73)).putObj (w.heap.size+3) (.loop rb)).cell? (zD w.heap.size 4)=some (zB):=B.cell 4;have a5:((W.alloc (zh #[.slice ua x.1.1.length uc,.string x.1.2.name,.slice c x.1.2.args.length d,.string x.2.1.r.name,.slice ra x.2.1.r.args.length rc,.map (some q)] 73)).putObj (w.heap.size+3) (.loop rb)).cell? (zD w.heap.size 5)=some (.map none):=B.cell 5;have af:=B.frozen;have bf:=au.frozen;have b0:((W.alloc (zh #[.slice ua x.1.1.length uc,.string x.1.2.name,.slice c x.1.2.args.length d,.string x.2.1.r.name,.slice ra x.2.1.r.args.length rc,.map (some q)] 73)).putObj (w.heap.size+3) (.loop rb)).cell? (zD (w.heap.size+1) 0)=some (.bool false):=au.cell 0;have aD:Hid (((W.alloc (zh #[.slice ua x.1.1.length uc,.string x.1.2.name,.slice c x.1.2.args.length d,.string x.2.1.r.name,.slice ra x.2.1.r.args.length rc,.map (some q)] 73)).putObj (w.heap.size+3) (.loop rb)).os=W.os/\((W.alloc (zh #[.slice ua x.1.1.length uc,.string x.1.2.name,.slice c x.1.2.args.length d,.string x.2.1.r.name,.slice ra x.2.1.r.args.length rc,.map (some q)] 73)).putObj (w.heap.size+3) (.loop rb)).tape=W.tape/\((W.alloc (zh #[.slice ua x.1.1.length uc,.string x.1.2.name,.slice c x.1.2.args.length d,.string x.2.1.r.name,.slice ra x.2.1.r.args.length rc,.map (some q)] 73)).putObj (w.heap.size+3) (.loop rb)).output=W.output):=⟨rfl,rfl,rfl⟩;have b2:=Aa bb;have b3:=Aa kV;have bc:=Aa B;have bd:=Aa au;have b4:=Aa J;clear aS aA J bb kV B au;gi_wp2
  refine⟨(CO.1 ba).2,?_⟩;clear ba;generalize ((W.alloc (zh #[.slice ua x.1.1.length uc,.string x.1.2.name,.slice c x.1.2.args.length d,.string x.2.1.r.name,.slice ra x.2.1.r.args.length rc,.map (some q)] 73)).putObj (w.heap.size+3) (.loop rb))=V at *;have b5:w.heap.size<V.heap.size:=by omega
  have b6:w.heap.size+1<V.heap.size:=by omega
  clear c0 c1 c2 c3 c4 c5 a0 a1 a2 a3 a4 a5;refine wpIn_block (wpIn_seq (wpIn_region_lit (Qw _ ?_ ?_)))
  ·simp
  refine wpList_load_mid rfl 73 _ rfl W.heap.size 0 rfl [.slice ua x.1.1.length uc,.string x.1.2.name,.slice c x.1.2.args.length d,.string x.2.1.r.name,.slice ra x.2.1.r.args.length rc,.map (some q)] _ (λj v hv=>by rw[DA,b4.o.cell j]; simpa using hv) underlying73 rfl (by kernel_rfl) ?_;(try simp only[Act.put,sq]);refine wpList_store_mid rfl 73 _ _ rfl w.heap.size 0 #[.slice ua x.1.1.length uc,.string x.1.2.name,.slice c x.1.2.args.length d,.string x.2.1.r.name,.slice ra x.2.1.r.args.length rc,.map (some q)] rfl rfl (λj hj=>⟨by rw[DA,bc.o.cell j]; simp at hj ⊢; omega,af _⟩) (by kernel_rfl) (all_oneCell_toArray (by intro v hv; simp at hv; rcases hv with rfl|rfl|rfl|rfl|rfl|rfl<;>rfl)) ?_;(try simp only[Act.put,sq]);have ak:Ac (V.setCells w.heap.size 0 [.slice ua x.1.1.length uc,.string x.1.2.name,.slice c x.1.2.args.length d,.string x.2.1.r.name,.slice ra x.2.1.r.args.length rc,.map (some q)]) (w.heap.size+1) #[.bool false] 4:=(Ac.setOther (Ac.setOther (Ac.setOther (Ac.setOther (Ac.setOther (Ac.setOther bd.o 0 _ (by omega)) 1 _ (by omega)) 2 _ (by omega)) 3 _ (by omega)) 4 _ (by omega)) 5 _ (by omega));have b7:(V.setCells w.heap.size 0 [.slice ua x.1.1.length uc,.string x.1.2.name,.slice c x.1.2.args.length d,.string x.2.1.r.name,.slice ra x.2.1.r.args.length rc,.map (some q)]).cell? (zD (w.heap.size+1) 0)=some (.bool false):=ak.cell 0;have b8:=ak.frozen;clear ak b0 bf af;have aE:w.heap.size+1<(V.setCells w.heap.size 0 [.slice ua x.1.1.length uc,.string x.1.2.name,.slice c x.1.2.args.length d,.string x.2.1.r.name,.slice ra x.2.1.r.args.length rc,.map (some q)]).heap.size:=by simp[World.setCells,World.setCell]; omega
  generalize b9:V.setCells w.heap.size 0 [.slice ua x.1.1.length uc,.string x.1.2.name,.slice c x.1.2.args.length d,.string x.2.1.r.name,.slice ra x.2.1.r.args.length rc,.map (some q)]=VS at *;go_wp2_with fail;refine⟨by simp,?_⟩;gi_wp2
  subst b9;simp only[World.setCells,DA,Nat.reduceAdd];clear b7 b8 aE;have bg:Hid (∀b,Z b->b<W.heap.size/\b≠w.heap.size+3/\b≠w.heap.size/\b≠w.heap.size+1/\¬G b):=λb hb=>by
   have h:=HZ.o b hb;exact⟨h.1,λe=>h.2 ((I.o b).2 (Ae e)),λe=>h.2 ((I.o b).2 (Ad (Ae e))),λe=>h.2 ((I.o b).2 (Ad (Ad (Ae e)))),λe=>h.2 ((I.o b).2 (Ad (Ad (Ad e))))⟩
  have k3:∀b,b≠w.heap.size->b≠w.heap.size+1->(((((((V.setCell (zD w.heap.size 0) (.slice ua x.1.1.length uc)).setCell (zD w.heap.size 1) (.string x.1.2.name)).setCell (zD w.heap.size 2) (.slice c x.1.2.args.length d)).setCell (zD w.heap.size 3) (.string x.2.1.r.name)).setCell (zD w.heap.size 4) (.slice ra x.2.1.r.args.length rc)).setCell (zD w.heap.size 5) (.map (some q))).setCell (zD (w.heap.size+1) 0) (.bool true)).heap[b]? = V.heap[b]? := λb h0 h1=>by
   rw[An _ _ _ _ (by simpa using h1)];rw[An _ _ _ _ (by simpa using h0)]; rw[An _ _ _ _ (by simpa using h0)]; rw[An _ _ _ _ (by simpa using h0)]; rw[An _ _ _ _ (by simpa using h0)]; rw[An _ _ _ _ (by simpa using h0)]; rw[An _ _ _ _ (by simpa using h0)]
  have bA:Ac (((((((V.setCell (zD w.heap.size 0) (.slice ua x.1.1.length uc)).setCell (zD w.heap.size 1) (.string x.1.2.name)).setCell (zD w.heap.size 2) (.slice c x.1.2.args.length d)).setCell (zD w.heap.size 3) (.string x.2.1.r.name)).setCell (zD w.heap.size 4) (.slice ra x.2.1.r.args.length rc)).setCell (zD w.heap.size 5) (.map (some q))).setCell (zD (w.heap.size+1) 0) (.bool true)) w.heap.size #[.slice ua x.1.1.length uc,.string x.1.2.name,.slice c x.1.2.args.length d,.string x.2.1.r.name,.slice ra x.2.1.r.args.length rc,.map (some q)] 73:=(by refine Ac.setOther ?_ _ _ (by omega);exact(((((bc.o.set 0 (.slice ua x.1.1.length uc)).set 1 (.string x.1.2.name)).set 2 (.slice c x.1.2.args.length d)).set 3 (.string x.2.1.r.name)).set 4 (.slice ra x.2.1.r.args.length rc)).set 5 (.map (some q)));have bB:Ac (((((((V.setCell (zD w.heap.size 0) (.slice ua x.1.1.length uc)).setCell (zD w.heap.size 1) (.string x.1.2.name)).setCell (zD w.heap.size 2) (.slice c x.1.2.args.length d)).setCell (zD w.heap.size 3) (.string x.2.1.r.name)).setCell (zD w.heap.size 4) (.slice ra x.2.1.r.args.length rc)).setCell (zD w.heap.size 5) (.map (some q))).setCell (zD (w.heap.size+1) 0) (.bool true)) (w.heap.size+1) #[.bool true] 4:=Ac.set1R (Ac.setOther (Ac.setOther (Ac.setOther (Ac.setOther (Ac.setOther (Ac.setOther bd.o 0 _ (by omega)) 1 _ (by omega)) 2 _ (by omega)) 3 _ (by omega)) 4 _ (by omega)) 5 _ (by omega));have bR:(((((((V.setCell (zD w.heap.size 0) (.slice ua x.1.1.length uc)).setCell (zD w.heap.size 1) (.string x.1.2.name)).setCell (zD w.heap.size 2) (.slice c x.1.2.args.length d)).setCell (zD w.heap.size 3) (.string x.2.1.r.name)).setCell (zD w.heap.size 4) (.slice ra x.2.1.r.args.length rc)).setCell (zD w.heap.size 5) (.map (some q))).setCell (zD (w.heap.size+1) 0) (.bool true)).heap.size=W.heap.size+1:=by simp[World.setCell]; omega
  have aF:(((((((V.setCell (zD w.heap.size 0) (.slice ua x.1.1.length uc)).setCell (zD w.heap.size 1) (.string x.1.2.name)).setCell (zD w.heap.size 2) (.slice c x.1.2.args.length d)).setCell (zD w.heap.size 3) (.string x.2.1.r.name)).setCell (zD w.heap.size 4) (.slice ra x.2.1.r.args.length rc)).setCell (zD w.heap.size 5) (.map (some q))).setCell (zD (w.heap.size+1) 0) (.bool true)).os=W.os/\(((((((V.setCell (zD w.heap.size 0) (.slice ua x.1.1.length uc)).setCell (zD w.heap.size 1) (.string x.1.2.name)).setCell (zD w.heap.size 2) (.slice c x.1.2.args.length d)).setCell (zD w.heap.size 3) (.string x.2.1.r.name)).setCell (zD w.heap.size 4) (.slice ra x.2.1.r.args.length rc)).setCell (zD w.heap.size 5) (.map (some q))).setCell (zD (w.heap.size+1) 0) (.bool true)).tape=W.tape/\(((((((V.setCell (zD w.heap.size 0) (.slice ua x.1.1.length uc)).setCell (zD w.heap.size 1) (.string x.1.2.name)).setCell (zD w.heap.size 2) (.slice c x.1.2.args.length d)).setCell (zD w.heap.size 3) (.string x.2.1.r.name)).setCell (zD w.heap.size 4) (.slice ra x.2.1.r.args.length rc)).setCell (zD w.heap.size 5) (.map (some q))).setCell (zD (w.heap.size+1) 0) (.bool true)).output=W.output:=(by simp only[VQ,VR,VT];exact aD.o);generalize (((((((V.setCell (zD w.heap.size 0) (.slice ua x.1.1.length uc)).setCell (zD w.heap.size 1) (.string x.1.2.name)).setCell (zD w.heap.size 2) (.slice c x.1.2.args.length d)).setCell (zD w.heap.size 3) (.string x.2.1.r.name)).setCell (zD w.heap.size 4) (.slice ra x.2.1.r.args.length rc)).setCell (zD w.heap.size 5) (.map (some q))).setCell (zD (w.heap.size+1) 0) (.bool true))=W3 at *;have kF:∀b,b<W.heap.size->b≠w.heap.size+3->b≠w.heap.size->b≠w.heap.size+1->(W3.putObj (w.heap.size+3) (.loop rd)).heap[b]? = W.heap[b]? := λb h0 h1 h2 h3=>(World.putObj_heap_other h1).trans ((k3 b h2 h3).trans (b3.o b h0 h1));have av:∀b,G b->b<W.heap.size/\b≠w.heap.size+3/\b≠w.heap.size/\b≠w.heap.size+1:=λb hb=>by have:=(HG.o b hb).1; omega
  refine⟨(k3 _ (by omega) (by omega)).trans b2.o,f,⟨I.o,bz.o,by simp; omega,λb hb=>(kF b (av b hb).1 (av b hb).2.1 (av b hb).2.2.1 (av b hb).2.2.2).trans (HC.o b hb),World.putObj_heap_same (by omega),by simp; omega,by simp; omega,λh=>by cases h⟩,⟨aF.1,aF.2.1,aF.2.2,by simp; omega,λb hb hn=>kF b hb (λe=>hn ((I.o b).2 (Ae e))) (λe=>hn ((I.o b).2 (Ad (Ae e)))) (λe=>hn ((I.o b).2 (Ad (Ad (Ae e)))))⟩,(λb hb=>Ae hb),λ_=>?_⟩;refine⟨x,#[.slice ua x.1.1.length uc,.string x.1.2.name,.slice c x.1.2.args.length d,.string x.2.1.r.name,.slice ra x.2.1.r.args.length rc,.map (some q)],Z,aC.o,(World.putObj_heap_other (by omega)).trans bA,(World.putObj_heap_other (by omega)).trans bB,an.o _ λb hb=>?_,λb hb=>?_⟩
  ·have h:=bg.o b hb;exact kF b h.1 h.2.1 h.2.2.1 h.2.2.2.1
  ·have h:=bg.o b hb;exact⟨by simp; omega,h.2.2.2.2⟩
 have bh:(JF (α:=Ch) w.heap.size (w.heap.size+1) (w.heap.size+3) 73 #[zB,.string ⟨#[]⟩,zB,.string ⟨#[]⟩,zB,.map none] G r rd A) [] true (λb=>b=w.heap.size+3∨b=w.heap.size∨b=w.heap.size+1∨G b) A:=⟨λb=>Iff.rfl,λb hb=>by have:=(HG.o b hb).1; omega,Al _,λb _=>rfl,H3.o,by omega,by omega,λ_=>⟨rfl,H0.o,H1.o⟩⟩;have bj:∀b,X b->b<A.heap.size/\¬(b=w.heap.size+3∨b=w.heap.size∨b=w.heap.size+1∨G b):=λb hb=>by
  have h:=HX.o b hb;refine⟨by omega,λh2=>?_⟩;rcases h2 with h2|h2|h2|h2
  ·omega
  ·omega
  ·omega
  ·exact h.2 h2
 refine(So JF.ok (w.heap.size+3) pN RH rs t N P R T F uv aa ca fv [] _ A X (HP.o.below u.o HP.o.lt) (HR.o.below u.o HR.o.lt) (HU.o.later u.o) (HT.o.below u.o HT.o.lt) (HS.o.later u.o) (HF.o.below u.o HF.o.lt) (bo.o.later u.o) bp.o bj (λh=>by
  have hlt:=HR.o.lt;rcases h with h|h|h|h
  ·omega
  ·omega
  ·omega
  ·exact(HG.o _ h).2 rfl) bh bq.o (by simp)).mono ?_
 rintro e g ⟨ao,s,⟨m,f',hm,aG,hj,he,bC⟩,hS⟩;rw[CE]at hj;obtain⟨bD,bE,bS,bk,bF,bT,bU,aH⟩:=hj;have aI : Hid (g.heap[w.heap.size + 2]? = some (.deferred (some []))) := (he.block _ (by omega) (λh => by
  rcases h with (h|h|h|h)|h
  ·omega
  ·omega
  ·omega
  ·have:=(HG.o _ h).1; omega
  ·exact h)).trans H2.o
 have bl:Hid (∀b,b<w.heap.size->g.heap[b]? = w.heap[b]?):=λb hb=>by
  by_cases hg:G b
  ·exact(bk b hg).trans (u.o.block b hb)
  ·exact (he.block b (by omega) (λh => by
    rcases h with (h|h|h|h)|h
    ·omega
    ·omega
    ·omega
    ·exact hg h
    ·exact h)).trans (u.o.block b hb)
 have ab:Hid (g.os=w.os/\g.tape=w.tape/\g.output=w.output):=⟨he.os.trans u.o.os,he.tape.trans u.o.tape,he.output.trans u.o.output⟩;have aJ:=Aa bF;have aK:=Aa ao;clear he bC bh bj RH ao aw ax ay az a6 a7 a8 bD bE bk;refine⟨aK.o,?_⟩;cases s with
 |true=>
  left;refine⟨aJ.o,?_⟩;obtain⟨aL,L,M⟩:=aH rfl;have em:=aG rfl;subst em;rw[D8]at aL;have bG:=Aa aL;clear aL aG hm hS aH;have z:∀b,b≠w.heap.size+3->(g.putObj (w.heap.size+3) (.loop { r with state:=.exhausted})).heap[b]? = g.heap[b]? := λb h=>World.putObj_heap_other h;have zg:(g.putObj (w.heap.size+3) (.loop { r with state:=.exhausted})).heap.size=g.heap.size:=by simp
  have C:(g.putObj (w.heap.size+3) (.loop { r with state:=.exhausted})).os=g.os/\(g.putObj (w.heap.size+3) (.loop { r with state:=.exhausted})).tape=g.tape/\(g.putObj (w.heap.size+3) (.loop { r with state:=.exhausted})).output=g.output:=⟨rfl,rfl,rfl⟩;generalize (g.putObj (w.heap.size+3) (.loop { r with state:=.exhausted}))=k at *;have D:Ac k w.heap.size #[zB,.string ⟨#[]⟩,zB,.string ⟨#[]⟩,zB,.map none] 73:=(z _ (by omega)).trans L;have q1:Ac k (w.heap.size+1) #[.bool false] 4:=(z _ (by omega)).trans M;have qd:k.heap[w.heap.size+2]? = some (.deferred (some [])):=(z _ (by omega)).trans aI.o;have qb:Below w.heap.size w k:=⟨C.1.trans ab.o.1,C.2.1.trans ab.o.2.1,C.2.2.trans ab.o.2.2,by omega,λb hb=>(z b (by omega)).trans (bl.o b hb)⟩;clear z C L M;have a0:=D.c0;have a1:=D.c1;have a2:=D.c2;have a3:=D.c3;have a4:k.cell? (zD w.heap.size 4)=some (zB):=D.cell 4;have a5:k.cell? (zD w.heap.size 5)=some (.map none):=D.cell 5;have af:=D.frozen;have b0:=q1.c0;have bf:=q1.frozen;have Q0:Ac (((((((k.setCell (zD w.heap.size 0) zB).setCell (zD w.heap.size 1) (.string ⟨#[]⟩)).setCell (zD w.heap.size 2) zB).setCell (zD w.heap.size 3) (.string ⟨#[]⟩)).setCell (zD w.heap.size 4) zB).setCell (zD w.heap.size 5) (.map none)).setCell (zD (w.heap.size+1) 0) (.bool false)) w.heap.size #[zB,.string ⟨#[]⟩,zB,.string ⟨#[]⟩,zB,.map none] 73:=(by refine Ac.setOther ?_ _ _ (by omega);exact(((((D.set 0 zB).set 1 (.string ⟨#[]⟩)).set 2 zB).set 3 (.string ⟨#[]⟩)).set 4 zB).set 5 (.map none));have Q1:Ac (((((((k.setCell (zD w.heap.size 0) zB).setCell (zD w.heap.size 1) (.string ⟨#[]⟩)).setCell (zD w.heap.size 2) zB).setCell (zD w.heap.size 3) (.string ⟨#[]⟩)).setCell (zD w.heap.size 4) zB).setCell (zD w.heap.size 5) (.map none)).setCell (zD (w.heap.size+1) 0) (.bool false)) (w.heap.size+1) #[.bool false] 4:=Ac.set1R (Ac.setOther (Ac.setOther (Ac.setOther (Ac.setOther (Ac.setOther (Ac.setOther q1 0 _ (by omega)) 1 _ (by omega)) 2 _ (by omega)) 3 _ (by omega)) 4 _ (by omega)) 5 _ (by omega));have QD:(((((((k.setCell (zD w.heap.size 0) zB).setCell (zD w.heap.size 1) (.string ⟨#[]⟩)).setCell (zD w.heap.size 2) zB).setCell (zD w.heap.size 3) (.string ⟨#[]⟩)).setCell (zD w.heap.size 4) zB).setCell (zD w.heap.size 5) (.map none)).setCell (zD (w.heap.size+1) 0) (.bool false)).heap[w.heap.size+2]? = some (.deferred (some [])):=(by rw[An _ _ _ _ (by simp)];rw[An _ _ _ _ (by simp)]; rw[An _ _ _ _ (by simp)]; rw[An _ _ _ _ (by simp)]; rw[An _ _ _ _ (by simp)]; rw[An _ _ _ _ (by simp)]; rw[An _ _ _ _ (by simp)];exact qd);have QB:Below w.heap.size w (((((((k.setCell (zD w.heap.size 0) zB).setCell (zD w.heap.size 1) (.string ⟨#[]⟩)).setCell (zD w.heap.size 2) zB).setCell (zD w.heap.size 3) (.string ⟨#[]⟩)).setCell (zD w.heap.size 4) zB).setCell (zD w.heap.size 5) (.map none)).setCell (zD (w.heap.size+1) 0) (.bool false)):=(((((((qb.setCell (by simp) _).setCell (by simp) _).setCell (by simp) _).setCell (by simp) _).setCell (by simp) _).setCell (by simp) _).setCell (by simp) _);have bH:=Aa Q0;have bI:=Aa Q1;have aM:=Aa QD;have aq:=Aa QB;have b5:w.heap.size<k.heap.size:=by omega
  have b6:w.heap.size+1<k.heap.size:=by omega
  clear Q0 Q1 QD QB D q1 qd qb;gi_wp2
  clear a0 a1 a2 a3 a4 a5 af bf b0;generalize (((((((k.setCell (zD w.heap.size 0) zB).setCell (zD w.heap.size 1) (.string ⟨#[]⟩)).setCell (zD w.heap.size 2) zB).setCell (zD w.heap.size 3) (.string ⟨#[]⟩)).setCell (zD w.heap.size 4) zB).setCell (zD w.heap.size 5) (.map none)).setCell (zD (w.heap.size+1) 0) (.bool false))=Wh at *;have E:Ac (Wh.putObj (w.heap.size+2) (.deferred none)) w.heap.size #[zB,.string ⟨#[]⟩,zB,.string ⟨#[]⟩,zB,.map none] 73:=(World.putObj_heap_other (by omega)).trans bH.o;have E1:Ac (Wh.putObj (w.heap.size+2) (.deferred none)) (w.heap.size+1) #[.bool false] 4:=(World.putObj_heap_other (by omega)).trans bI.o;have EB:Below w.heap.size w (Wh.putObj (w.heap.size+2) (.deferred none)):=⟨aq.o.os,aq.o.tape,aq.o.output,by simp; exact aq.o.size,λb hb=>(World.putObj_heap_other (by omega)).trans (aq.o.block b hb)⟩;refine⟨by simp,.inl ⟨_,_,rfl,run_takeDeferred aM.o,?_⟩⟩;refine⟨.tuple #[.agg #[zB,.string ⟨#[]⟩,zB,.string ⟨#[]⟩,zB,.map none],.bool false],?_,EB,Ae ⟨bG.o,rfl⟩⟩;have e0:=E.cell 0;have O:=E.cell 1;have e2:=E.cell 2;have e3:=E.cell 3;have e4:=E.cell 4;have e5:=E.cell 5;have h2:=E1.cell 0;simp[results,results37,go_sem,e0,O,e2,e3,e4,e5,h2]
 |false=>
  right;refine⟨by rw[<-aA]; exact aJ.o,?_⟩;obtain⟨y,cs,Z,bm,L,M,hl,Y⟩:=hS rfl;have aC:=Aa bm;have an:=Aa hl;have HZ:=Aa Y;have HA:=Aa L;have HB:=Aa M;clear bm hl Y aG hm hS aH L M;have ar:Hid (∃ua uc c d ra rc q,cs=#[.slice ua y.1.1.length uc,.string y.1.2.name,.slice c y.1.2.args.length d,.string y.2.1.r.name,.slice ra y.2.1.r.args.length rc,.map (some q)]/\FH y #[.agg cs] g Z):=by
   have h0:=an.o;obtain⟨ua,uc,c,d,ra,rc,q,Lm,O,_⟩:=an.o;simp at O;exact⟨ua,uc,c,d,ra,rc,q,O,h0⟩
  obtain⟨ua,uc,c,d,ra,rc,q,rfl,bJ⟩:=ar.o;clear bJ ar;have z:∀b,b≠w.heap.size+3->(g.putObj (w.heap.size+3) (.loop { r with state:=.exhausted,pending:=some .ret})).heap[b]? = g.heap[b]? := λb h=>World.putObj_heap_other h;have zg:(g.putObj (w.heap.size+3) (.loop { r with state:=.exhausted,pending:=some .ret})).heap.size=g.heap.size:=by simp
  have C:(g.putObj (w.heap.size+3) (.loop { r with state:=.exhausted,pending:=some .ret})).os=g.os/\(g.putObj (w.heap.size+3) (.loop { r with state:=.exhausted,pending:=some .ret})).tape=g.tape/\(g.putObj (w.heap.size+3) (.loop { r with state:=.exhausted,pending:=some .ret})).output=g.output:=⟨rfl,rfl,rfl⟩;generalize (g.putObj (w.heap.size+3) (.loop { r with state:=.exhausted,pending:=some .ret}))=k at *;have qd:k.heap[w.heap.size+2]? = some (.deferred (some [])):=(z _ (by omega)).trans aI.o;have bn:=VV an.o;have kb:∀b,Z b/\GM g b->(k.putObj (w.heap.size+2) (.deferred none)).heap[b]? = g.heap[b]? := λb hb=>(World.putObj_heap_other (λe=>hb.2.2 _ ((Cb (λi=>g.heap[i]?) e).trans aI.o))).trans (z b (λe=>hb.2.1 _ ((Cb (λi=>g.heap[i]?) e).trans aJ.o)));have bK:=Aa (VW bn kb);have bL:Hid (∀b,Z b/\GM g b->b<(k.putObj (w.heap.size+2) (.deferred none)).heap.size/\¬G b):=λb hb=>⟨by have:=(HZ.o b hb.1).1; simp; omega,(HZ.o b hb.1).2⟩;have E:Ac (k.putObj (w.heap.size+2) (.deferred none)) w.heap.size #[.slice ua y.1.1.length uc,.string y.1.2.name,.slice c y.1.2.args.length d,.string y.2.1.r.name,.slice ra y.2.1.r.args.length rc,.map (some q)] 73:=(World.putObj_heap_other (by omega)).trans ((z _ (by omega)).trans HA.o);have E1:Ac (k.putObj (w.heap.size+2) (.deferred none)) (w.heap.size+1) #[.bool true] 4:=(World.putObj_heap_other (by omega)).trans ((z _ (by omega)).trans HB.o);have EB:Below w.heap.size w (k.putObj (w.heap.size+2) (.deferred none)):=⟨C.1.trans ab.o.1,C.2.1.trans ab.o.2.1,C.2.2.trans ab.o.2.2,by simp; omega,λb hb=>(World.putObj_heap_other (by omega)).trans ((z b (by omega)).trans (bl.o b hb))⟩;have U:=Aa E;have bM:=Aa E1;have bN:=Aa EB;have aM:=Aa qd;clear E E1 EB qd kb bn z C;gi_wp2
  refine⟨by simp,.inl ⟨_,_,rfl,run_takeDeferred aM.o,?_⟩⟩;refine⟨.tuple #[.agg #[.slice ua y.1.1.length uc,.string y.1.2.name,.slice c y.1.2.args.length d,.string y.2.1.r.name,.slice ra y.2.1.r.args.length rc,.map (some q)],.bool true],?_,bN.o,Ad ⟨y,_,_,aC.o,rfl,bK.o,bL.o⟩⟩;have e0:=U.o.cell 0;have O:=U.o.cell 1;have e2:=U.o.cell 2;have e3:=U.o.cell 3;have e4:=U.o.cell 4;have e5:=U.o.cell 5;have h2:=bM.o.cell 0;simp[results,results37,go_sem,e0,O,e2,e3,e4,e5,h2]
open Go.RowKit
def Ik (rs:List Pr):List Int->Tm->Prop
 | [],_=>True
 |i::r,t=>Cx rs (t.args.take i.toNat)/\match t.args[i.toNat]? with
  |some a=>Ik rs r a
  |none=>True
theorem WB:∀(p:List Int) (t x:Tm),AA t p=some x->x∈Ap [t]
 | [],t,x,h=>by simp only[AA,Gr] at h; subst h; rw[G4]; simp
 |i::r,t,x,h=>by
  obtain⟨k,hk,rfl,h2⟩:=Gu h;have c:=WB r _ x h2;rw[G4];have h3:∀(l:List Tm) (a:Tm),a∈l->∀y∈Ap [a],y∈Ap l:=by
   intro l;induction l with
   |nil=>intro a ha; cases ha
   |cons b l aa=>
    intro a ha y hy;rw[G4];rcases Bh.1 ha with rfl|ha
    ·rw[G4]at hy;simp only[Bh,Ba] at hy ⊢;rcases hy with h|h|h
     ·exact Ae h
     ·exact Ad (Ae h)
     ·simp[Ap]at h
    ·have:=aa a ha y hy;simp[this]
  have d:=h3 t.args _ (AM hk) x c;simp[d]
theorem pP {g:Dn->List β} (a:∀d:Dn,DE rs d.2=false->g d=[]) {hs b:List Int} (h:Cx rs [t]):(BB hs b t).flatMap g=[]:=by
 rw[List.flatMap_eq_nil_iff];intro d hd;obtain⟨p,_,h2⟩:=MP hd;exact a d (h _ (WB p t d.2 h2))
theorem pQ {g:Dn->List β} (b:∀d:Dn,DE rs d.2=false->g d=[]):∀(l:List Tm) (hs:List Int) (j st:Nat) (r:List Int),(∀k (h:k<l.length),(j+k<st->Cx rs [l[k]])/\(j+k=st->Ik rs r l[k]))->(Cg hs j st r l).flatMap g=(Cg hs j 0 [] l).flatMap g:=by
 intro l;induction l using Tm.indL with
 |h0=>intro hs j st r _; simp[Cg]
 |h s l rest c e=>
  intro hs j st r h;have h0:=h 0 (by simp);simp only[Hp,Gs] at h0;have aa:=e hs (j+1) st r (λk hk=>by
   have:=h (k+1) (by simp; omega);rw[show j+1+k=j+(k+1) by omega];simpa using this)
  rw[Ht,Ht,Hn,Hn,aa];congr 1
  have f:(if j=0 then ([]:List Int) else [])=[]:=by split<;>rfl
  rw[Ah (show ¬j<0 by omega),f];by_cases hj:j<st
  ·rw[Ao hj,pP b (h0.1 hj)];rfl
  ·rw[Ah hj];by_cases he:j=st
   ·rw[Ao he];have m:=h0.2 he;have ab:∀a:List Int,BB (hs++[(j:Int)]) a ⟨s,l⟩=(hs++[(j:Int)],⟨s,l⟩)::Cg (hs++[(j:Int)]) 0 (Bv a) a.tail l:=λa=>rfl;rw[ab,ab,Hm,Hm];congr 1
    have n:Bv ([]:List Int)=0:=rfl;rw[n];refine c (hs++[(j:Int)]) 0 (Bv r) r.tail λk hk=>?_;rw[DA];cases r with
    |nil=>exact⟨λh=>by simp[Bv] at h,λ_=>trivial⟩
    |cons i r=>
     have o:Bv (i::r)=i.toNat:=rfl;rw[o];obtain⟨h1,h2⟩:=m;refine⟨λhlt=>?_,λheq=>?_⟩
     ·refine Gy.1 h1 _ ?_;have:l[k]=(l.take i.toNat)[k]'(by simp; omega):=(by simp);rw[this];exact AM _
     ·have q:(⟨s,l⟩:Tm).args[i.toNat]? = some l[k]:=(by show l[i.toNat]? = some l[k];rw[<-heq];exact F1 hk);rw[q]at h2;exact h2
   ·rw[Ah he]
theorem WC {a:List Int} (h:Ik rs a t):Ct rs t a=Ct rs t []:=by
 obtain⟨s,l⟩:=t;have b:∀d:Dn,DE rs d.2=false->Cm rs d=[]:=λd hd=>by
  unfold Cm;have:Bs rs d.2=[]:=by
   unfold Bs;rw[List.filterMap_eq_nil_iff];intro r c;unfold DE at hd;have h1:=List.any_eq_false.1 hd r c;unfold I4 at h1;cases hm:AX r.l d.2 [] with
   |none=>rfl
   |some g=>rw[hm] at h1; simp at h1
  rw[this]; rfl
 unfold Ct;have aa:∀a:List Int,BB [] a ⟨s,l⟩=([],⟨s,l⟩)::Cg [] 0 (Bv a) a.tail l:=λa=>rfl;rw[aa,aa,Hm,Hm];congr 1
 have e:Bv ([]:List Int)=0:=rfl;rw[e];refine pQ b l [] 0 (Bv a) a.tail λk hk=>?_;rw[DA];cases a with
 |nil=>exact⟨λh=>by simp[Bv] at h,λ_=>trivial⟩
 |cons i r=>
  have f:Bv (i::r)=i.toNat:=rfl;rw[f];obtain⟨h1,h2⟩:=h;refine⟨λhlt=>?_,λheq=>?_⟩
  ·refine Gy.1 h1 _ ?_;have:l[k]=(l.take i.toNat)[k]'(by simp; omega):=(by simp);rw[this];exact AM _
  ·have j:(⟨s,l⟩:Tm).args[i.toNat]? = some l[k]:=(by show l[i.toNat]? = some l[k];rw[<-heq];exact F1 hk);rw[j]at h2;exact h2
theorem NO {α β:Type} (F:α->List β) (f:α->Bool) (a:∀p,f p=true↔F p≠[]):∀ps:List α,(ps.flatMap F).head? = (ps.find? f).bind λp=>(F p).head?
 | []=>rfl
 |p::ps=>by
  rw[Hm,List.find?_cons];cases h:f p with
  |true=>
   have h1:=(a p).1 h;cases hF:F p with
   |nil=>exact absurd hF h1
   |cons b l=>simp[hF]
  |false=>have h1:F p=[]:=(by apply EX;intro h2;rw[(a p).2 h2]at h;cases h);rw[h1,CE];exact NO F f a ps
theorem NP {p:List Int}:Eo rs false t p=true↔∃x,AA t p=some x/\DE rs x=true:=by
 unfold Eo Fb;cases h:AA t p with
 |none=>simp
 |some x=>simp
theorem NQ:DE rs x=true↔Bs rs x≠[]:=by
 unfold DE Bs;rw[D6,Ne,List.filterMap_eq_nil_iff];constructor
 ·rintro⟨r,a,h⟩ h2;have:=h2 r a;unfold I4 at h;cases hm:AX r.l x [] with
  |none=>rw[hm] at h; cases h
  |some g=>rw[hm] at this; cases this
 ·intro h;apply EX;intro h2;refine h λr a=>?_;cases hm:AX r.l x [] with
  |none=>rfl
  |some g=>exact absurd ⟨r,a,by unfold I4; rw[hm]; rfl⟩ h2
theorem pR {e:List Int} {c:Ch} (d:∀p∈rs,Br p=0) (j:Ik rs e t) (h:[c] <+: Ct rs t e):De rs false t=some c.1.1/\AA t c.1.1=some c.1.2/\Cu rs false t=some (Bt t c):=by
 rw[WC j]at h;have aa:AA t c.1.1=some c.1.2:=JZ (h.subset (by simp));have hc:(Ct rs t []).head? = some c:=by
  obtain⟨q,hq⟩:=h;rw[<-hq]; rfl
 have k:=K9 (λp x=>(Cm rs (p,x)).map λc=>c.1.1) t (λp=>match AA t p with|some x=>(Cm rs (p,x)).map λc=>c.1.1|none=>[]) (λp x hx=>by rw[hx]);have a:((Ct rs t []).map λc=>c.1.1).head? = some c.1.1:=by rw[List.head?_map,hc]; rfl
 unfold Ct at a;rw[List.map_flatMap,k,NO _ (Eo rs false t)]at a
 ·have hp:De rs false t=some c.1.1:=by
   unfold De;cases f:(Ez t).find? (Eo rs false t) with
   |none=>rw[f] at a; cases a
   |some p=>
    rw[f]at a;simp only[Mb] at a;cases hx:AA t p with
    |none=>rw[hx] at a; cases a
    |some x=>
     rw[hx]at a;simp only[Cm,KJ] at a;cases hF:Bs rs x with
     |nil=>rw[hF] at a; cases a
     |cons y g=>rw[hF] at a; simp at a; rw[a]
  refine⟨hp,aa,?_⟩;have l:[c.2] <+: Bs rs c.1.2:=by
   have h3:((Ct rs t []).filter λc'=>decide (c'.1.1=c.1.1)).head? = some c:=(by obtain⟨q,hq⟩:=h;rw[<-hq];simp);have m:=K9 (λp x=>((Cm rs (p,x)).map λc=>(c.1.1,c.2))) t (λp=>match AA t p with|some x=>(Cm rs (p,x)).map λc=>(c.1.1,c.2)|none=>[]) (λp x hx=>by rw[hx]);have b:((Ct rs t []).map λc=>(c.1.1,c.2)).head? = some (c.1.1,c.2):=by rw[List.head?_map,hc]; rfl
   unfold Ct at b;rw[List.map_flatMap,m,NO _ (Eo rs false t)]at b
   ·have ab:=hp;unfold De at ab;rw[ab]at b;simp only[Mb,aa] at b;simp only[Cm,KJ] at b;cases hF:Bs rs c.1.2 with
    |nil=>rw[hF] at b; cases b
    |cons y g=>rw[hF]at b;simp at b;rw[<-b];exact⟨g,rfl⟩
   ·intro p;rw[NP];cases hx:AA t p with
    |none=>simp
    |some x=>simp[Cm,NQ]
  obtain⟨k1,k2,k3,i⟩:=SS d l;unfold Cu;rw[hp];simp only[Mb,aa];rw[k3];unfold Bt DV;have n:gT c.2.2 c.2.1.r=fT c.2.2 c.2.1.r:=by
   rw[SP i _ (Gv (d _ k1)).2.1,Pa i _ (Gv (d _ k1)).2.1]
  rw[n];rfl
 ·intro p;rw[NP];cases hx:AA t p with
  |none=>simp
  |some x=>simp[Cm,NQ]
theorem pS {b:List Int} (e:Ik rs b t) (h:Ct rs t b=[]):Cu rs false t=none:=by
 rw[WC e]at h;rw[JY,<-Lq rs false];have f:=K9 (λp x=>(Cm rs (p,x)).map λc=>c.1.1) t (λp=>match AA t p with|some x=>(Cm rs (p,x)).map λc=>c.1.1|none=>[]) (λp x hx=>by rw[hx]);have a:((Ct rs t []).map λc=>c.1.1).head? = none:=by rw[h]; rfl
 unfold Ct at a;rw[List.map_flatMap,f,NO _ (Eo rs false t)]at a
 ·unfold De;cases d:(Ez t).find? (Eo rs false t) with
  |none=>rfl
  |some p=>
   rw[d]at a;simp only[Mb] at a;have hp:=List.find?_some d;obtain⟨x,hx,aa⟩:=NP.1 hp;rw[hx]at a;simp only[Cm,KJ] at a;have:=NQ.1 aa;cases hF:Bs rs x with
   |nil=>exact absurd hF this
   |cons y ys=>rw[hF] at a; simp at a
 ·intro p;rw[NP];cases hx:AA t p with
  |none=>simp
  |some x=>simp[Cm,NQ]
theorem WD {rs:List Pr} {inner:Bool}:∀(l:List Tm) (j:Nat) (q:List Int),Fd rs inner j l=some q->∃pre a post p,l=pre++a::post/\q=((j+pre.length:Nat):Int)::p/\De rs inner a=some p/\Cx rs pre
 | [],j,q,h=>by simp[Fd] at h
 |t::r,j,q,h=>by
  rw[Fd]at h;cases ht:De rs inner t with
  |some p=>rw[ht]at h;simp only[Gr] at h;exact⟨[],t,r,p,rfl,by rw[<-h]; simp,ht,λy hy=>by simp[Ap] at hy⟩
  |none=>
   rw[ht]at h;obtain⟨pre,a,post,p,b,c,d,e⟩:=WD r (j+1) q h;refine⟨t::pre,a,post,p,by rw[b]; rfl,by rw[c]; congr 2; simp; omega,d,?_⟩;rw[Gy];intro x hx;rcases Bh.1 hx with rfl|hx
   ·exact(Lq rs inner x).1 ht
   ·exact Gy.1 e x hx
theorem WE {rs:List Pr} (y:Tm):∀(p:List Int) (t:Tm),De rs false t=some p->Ik rs p (AJ y p t)
 | [],t,_=>trivial
 |i::r,t,h=>by
  obtain⟨s,l⟩:=t;rw[MO]at h;split at h
  ·cases h
  ·obtain⟨pre,a,post,p,b,c,d,e⟩:=WD _ _ _ h;simp only at b;subst b;rw[DA]at c;obtain⟨rfl,rfl⟩:i=(pre.length:Int)/\r=p:=by simpa using c
   rw[SA];refine⟨?_,?_⟩
   ·have:(pre++AJ y r a::post).take ((pre.length:Int)).toNat=pre:=(by simp);show Cx rs ((pre++AJ y r a::post).take ((pre.length:Int)).toNat);rw[this];exact e
   ·have:(pre++AJ y r a::post)[((pre.length:Int)).toNat]? = some (AJ y r a):=(by simp);show match (pre++AJ y r a::post)[((pre.length:Int)).toNat]? with|some a=>Ik rs r a|none=>True
    rw[this];exact WE y r a d
def pT (rs:List Pr) (m:Nat) (t:Tm) (w:World) (fv i:Value) (wr:World):Prop:=
 ∃(j:Nat) (tc:Tm) (a:Option Addr) (c:Nat) (fs:List Int),j<=m/\i=zA j/\AL rs false m t=DW j (AL rs false (m-j) tc)/\Ab [tc]<=2000/\(AA tc fs).isSome=true/\Ik rs fs tc/\Ac wr w.heap.size (zF tc a c) 31/\Sl wr (λb=>b≠w.heap.size/\b≠w.heap.size+1) a tc.args/\PV wr (λb=>b≠w.heap.size/\b≠w.heap.size+1) fv fs/\Ac wr (w.heap.size+1) zd 31/\Below w.heap.size w wr/\w.heap.size+2<=wr.heap.size
theorem pU (rs:List Pr) (hr:∀p∈rs,Br p=0) (t:Tm) (m:Nat) (u:Value) (a0:Option Addr) (c0:Nat) (w:World) (X0:Nat->Prop) (aJ:QV w X0 u rs) (aK:Sl w X0 a0 t.args) (hz:Ab [t]<=2000) (hm:m<=400):
  Calls prog 24 #[u,.agg (zF t a0 c0),zA m] w λe w'=>NG (AL rs false m t) w e w':=by
 obtain⟨X,aL,hu,hs⟩:∃X:Nat->Prop,(∀b,X b->b<w.heap.size)/\QV w X u rs/\Sl w X a0 t.args:=⟨λb=>X0 b/\b<w.heap.size,λ_ h=>h.2,aJ.mono λb h1 h2=>⟨h1,h2⟩,aK.mono λb h1 h2=>⟨h1,h2⟩⟩;have aM:=Aa aL;have HU:=Aa hu;have HS:=Aa hs;have HR:=Aa hr;obtain⟨ua,uc,rfl,_,_⟩:=hu;clear aL hs aJ aK hr;have HW:Hid (∃W,W=(w.alloc (ze t a0 c0)).alloc zc/\Below w.heap.size w W/\W.heap.size=w.heap.size+2/\Ac W w.heap.size (zF t a0 c0) 31/\Ac W (w.heap.size+1) zd 31):=by
  obtain⟨h1,h2,h3⟩:=Fe [(.cells (zF t a0 c0) 31:Obj),(.cells zd 31:Obj)] w;exact⟨_,rfl,h1,h2,h3 0 _ rfl,h3 1 _ rfl⟩
 go_enter func24,ntmps24;go_wp2_with fail;obtain⟨w0,aN,aO,aP,aQ,aR⟩:=HW.o;rw[<-aN];have aS:=Aa aO;have b8:=Aa aQ;have b9:=Aa aR;have bA:=Aa aP;clear aN HW aO aP aQ aR;go_loopw [9,10] (λfv i wr=>pT rs m t w fv i wr) (λfv i wr=>m-(intOf i).toNat);case atStart=>
  exact⟨0,t,a0,c0,[],Be _,rfl,by rw[Nat.sub_zero]; exact(OZ (JW _ _ _ _)).symm,hz,rfl,trivial,b8.o,(HS.o.later aS.o).mono λb hb _=>by have:=aM.o b hb; omega,⟨none,0,rfl,by simp,Ae rfl⟩,b9.o,aS.o,by have:=bA.o; omega⟩
 case round=>
  obtain⟨j,s,a,c,P,hj,rfl,heq,bB,aT,aU,hT,aV,aW,aX,aY,bZ⟩:=hrel;have au:=Aa heq;have ay:=Aa bB;have bC:=Aa aT;have aZ:=Aa aU;have az:=Aa hT;have a1:=Aa aV;have ba:=Aa aW;have a8:=Aa aX;have av:=Aa aY;obtain⟨fa,fc,rfl,aA,_⟩:=aW;clear heq aU aV aX aT;have t0:=hT.c0;have t1:=hT.c1;clear hT aY;have F:=Aa (Fe [(.cells (zF s a c) 31:Obj),(.cells #[.slice fa P.length fc] 22:Obj),(.cells #[.slice ua rs.length uc] 23:Obj),(.cells #[.func (.func 60) #[] #[zC wr.heap.size,zC (wr.heap.size+1)]] 80:Obj)] wr);go_wp2_with (first|(go_at_call 39; refine(O4 _ _ _ _ _ _ _ _).mono ?_; rintro e w' ⟨rfl,rfl⟩)|(go_at_call 38; refine(SB _ _ _ _ _ _ _).mono ?_; rintro e w' ⟨rfl,rfl⟩));have bb:Hid (∃W,W=((((wr.alloc (ze s a c)).alloc (zh #[.slice fa P.length fc] 22)).alloc (zh #[.slice ua rs.length uc] 23)).alloc (zh #[.func (.func 60) #[] #[zC wr.heap.size,zC (wr.heap.size+1)]] 80))/\Below wr.heap.size wr W/\W.heap.size=wr.heap.size+4/\Ac W wr.heap.size (zF s a c) 31/\Ac W (wr.heap.size+1) #[.slice fa P.length fc] 22/\Ac W (wr.heap.size+1+1) #[.slice ua rs.length uc] 23/\Ac W (wr.heap.size+1+1+1) #[.func (.func 60) #[] #[zC wr.heap.size,zC (wr.heap.size+1)]] 80):=⟨_,rfl,F.o.1,F.o.2.1,F.o.2.2 0 _ rfl,F.o.2.2 1 _ rfl,F.o.2.2 2 _ rfl,F.o.2.2 3 _ rfl⟩;obtain⟨w4,bc,R,bD,bd,bf,bg,bh⟩:=bb.o;rw[<-bc];have bj:=Aa R;clear bc bb F t0 t1;refine(pO rs s P (wr.heap.size+1+1+1) (wr.heap.size+1+1) wr.heap.size (wr.heap.size+1) (.slice ua rs.length uc) a c (.slice fa P.length fc) w4 (λb=>(b≠w.heap.size/\b≠w.heap.size+1)/\b<wr.heap.size) (λb=>b=w.heap.size∨b=w.heap.size+1) bh bg (((HU.o.later av.o).mono λb hb _=>by have:=aM.o b hb; exact⟨⟨by omega,by omega⟩,by omega⟩).later R) bd ((a1.o.mono λb hb T=>⟨hb,T⟩).later R) bf ((ba.o.mono λb hb T=>⟨hb,T⟩).later R) bC.o (λb hb=>⟨by omega,λh=>by rcases h with h|h; exact hb.1.1 h; exact hb.1.2 h⟩) (λb hb=>by omega) (by have:=ay.o; omega)).mono ?_;rintro e g ⟨bk,bE⟩;have U:=Aa (bj.o.trans (bk.mono (by omega)));have ca:wr.heap.size<=g.heap.size:=U.o.size;have L:=Aa (az.o.below U.o az.o.lt);have ab:=Aa (a8.o.below U.o a8.o.lt);have bl:=Aa (a1.o.later U.o);have G:=Aa (av.o.trans (U.o.mono av.o.size));clear R bD bd bf bg bh bk bj az a8 a1 ba av;rcases bE with ⟨hn,rfl⟩|⟨y,cs,Z,bm,rfl,T,hZ⟩
  ·have V:Hid (AL rs false m t=(0,s,j)):=Aa (by rw[au.o,I5 (pS aZ.o hn)];simp[DW]);have E:Hid (∀o,Below g.heap.size g (g.alloc o)):=λo=>(Ag _ _).alloc (Al _) o;have t0:∀o,(g.alloc o).cell? (zD w.heap.size 0)=some (.string s.name):=λo=>(L.o.alloc o).cell 0;have t1:∀o,(g.alloc o).cell? (zD w.heap.size 1)=some (.slice a s.args.length c):=λo=>(L.o.alloc o).cell 1;clear hn;go_wp2_with fail;refine(OH s _ _ _ ⟨a,c,rfl,bl.o.later (E.o _)⟩ (by have:=ay.o; omega)).mono ?_;rintro e l ⟨v6,rfl,⟨a6,c6,rfl,bn⟩,B⟩;have bF:=Aa bn;have M:=Aa ((E.o _).trans (B.mono (by simp)));have bG:g.heap.size+1<=l.heap.size:=by have:=B.size; simp at this; omega
   have aa:=Aa (ab.o.below M.o ab.o.lt);have H:=Aa (G.o.trans (M.o.mono G.o.size));clear bn B t0 t1;have r0:=aa.o.c0;have r1:=aa.o.c1;have rf:=aa.o.frozen;go_wp2_with fail;refine Aq (v:=.tuple #[.agg (zF s a6 c6),zA j,zA 0]) (by simp[results,results24,go_sem,Az,Aw,r0,r1]) rfl ?_;refine⟨(H.o.setCell (by simp) _).setCell (by simp) _,s,a6,c6,j,0,rfl,V.o,(bF.o.kept λb hb=>?_).mono λb hb _=>by simp at hb; have:=G.o.size; omega⟩;simp at hb;rw[An _ _ _ _ (by simp; omega),An _ _ _ _ (by simp; omega)]
  ·obtain⟨x,z,C,D,ra,rc,q,Lm,N,bo,bp,bq,hq,br⟩:=T;simp at N;subst N;obtain⟨bs,aq,bt⟩:=pR HR.o aZ.o bm;have bH:=Aa bs;have af:=Aa aq;have aB:=Aa bt;have bu:∀b,Z b->b≠w.heap.size/\b≠w.heap.size+1:=λb hb=>⟨λh=>(hZ b hb).2 (Ae h),λh=>(hZ b hb).2 (Ad h)⟩;have bI:=Aa bu;have bw:=Aa bo;have bJ:=Aa bp;have bK:=Aa bq;have bL:=Aa br;clear bm hZ bo bp bq hq br bs aq bt bu;by_cases aC:j=m
   ·have bM:(j:Int)=(m:Int):=(by omega);have V:Hid (AL rs false m t=(9,⟨⟨#[]⟩,[]⟩,0)):=Aa (by rw[au.o,aC,Nat.sub_self,Lk aB.o];exact Lo _ _ (by decide));clear aC;have r0:=ab.o.c0;have r1:=ab.o.c1;have rf:=ab.o.frozen;have rl:=ab.o.lt;go_wp2_with fail;have Y:Ac (((g.setCell (zD (w.heap.size+1) 0) (.string ⟨#[]⟩)).setCell (zD (w.heap.size+1) 1) zB).alloc (zh #[.slice x y.1.1.length z,.string y.1.2.name,.slice C y.1.2.args.length D,.string y.2.1.r.name,.slice ra y.2.1.r.args.length rc,.map (some q)] 73)) (w.heap.size+1) zd 31:=((ab.o.set 0 _).set 1 _).alloc _;have BF:Hid (Below w.heap.size w (((g.setCell (zD (w.heap.size+1) 0) (.string ⟨#[]⟩)).setCell (zD (w.heap.size+1) 1) zB).alloc (zh #[.slice x y.1.1.length z,.string y.1.2.name,.slice C y.1.2.args.length D,.string y.2.1.r.name,.slice ra y.2.1.r.args.length rc,.map (some q)] 73))):=((G.o.setCell (by simp) _).setCell (by simp) _).alloc (by have:=G.o.size; simp[World.setCell]; omega) _;generalize (((g.setCell (zD (w.heap.size+1) 0) (.string ⟨#[]⟩)).setCell (zD (w.heap.size+1) 1) zB).alloc (zh #[.slice x y.1.1.length z,.string y.1.2.name,.slice C y.1.2.args.length D,.string y.2.1.r.name,.slice ra y.2.1.r.args.length rc,.map (some q)] 73))=wf at *;have f0:=Y.c0;have f1:=Y.c1;refine Aq (v:=.tuple #[.agg zd,zA 0,zA 9]) (by simp[results,results24,go_sem,f0,f1]) rfl ?_;exact⟨BF.o,⟨⟨#[]⟩,[]⟩,none,0,0,9,rfl,V.o,⟨by simp,Ae rfl⟩⟩
   ·have bM:¬((j:Int)=(m:Int)):=(by omega);have cb:j<m:=(by omega);clear aC;have E:Hid (Below g.heap.size g (g.alloc (zh #[.slice x y.1.1.length z,.string y.1.2.name,.slice C y.1.2.args.length D,.string y.2.1.r.name,.slice ra y.2.1.r.args.length rc,.map (some q)] 73))):=(Ag _ _).alloc (Al _) _;have aD:Hid (Ac (g.alloc (zh #[.slice x y.1.1.length z,.string y.1.2.name,.slice C y.1.2.args.length D,.string y.2.1.r.name,.slice ra y.2.1.r.args.length rc,.map (some q)] 73)) g.heap.size #[.slice x y.1.1.length z,.string y.1.2.name,.slice C y.1.2.args.length D,.string y.2.1.r.name,.slice ra y.2.1.r.args.length rc,.map (some q)] 73):=Ac.new g _ _;have t0:∀o,(g.alloc o).cell? (zD w.heap.size 0)=some (.string s.name):=λo=>(L.o.alloc o).cell 0;have t1:∀o,(g.alloc o).cell? (zD w.heap.size 1)=some (.slice a s.args.length c):=λo=>(L.o.alloc o).cell 1;go_wp2_with fail;have cc:(g.alloc (zh #[.slice x y.1.1.length z,.string y.1.2.name,.slice C y.1.2.args.length D,.string y.2.1.r.name,.slice ra y.2.1.r.args.length rc,.map (some q)] 73)).heap.size=g.heap.size+1:=(by simp);refine(Sr y.1 y.2 s x C ra a z D rc c q Lm _ (λb=>b≠w.heap.size/\b≠w.heap.size+1) Z (bw.o.later E.o) (bJ.o.later E.o) (bK.o.later E.o) (bL.o.later E.o) (bl.o.later E.o) af.o ay.o).mono ?_;rintro e l ⟨B,bN⟩;have M:=Aa (E.o.trans (B.mono (by omega)));have bG:g.heap.size+1<=l.heap.size:=by have:=B.size; omega
    have aE:=Aa (aD.o.below B aD.o.lt);have aF:=Aa (L.o.below M.o L.o.lt);have aa:=Aa (ab.o.below M.o ab.o.lt);have H:=Aa (G.o.trans (M.o.mono G.o.size));have bx:=Aa ((bw.o.later E.o).later B);have cd:=Aa (B.size);rcases bN with ⟨bz,k,n,rfl,b0⟩|⟨aA,rfl⟩
    ·have bO:=Aa (J0 (y:=y.2) (d:=y.1) af.o);obtain⟨f,I⟩:∃f,f=AJ (DV y.2) y.1.1 s:=⟨_,rfl⟩;have bP:Hid (f=Bt s y):=Aa (by rw[I];rfl);have b1:Hid (Ab [f]<=2000):=Aa (by rw[I];apply EX;intro h;exact bz (bO.o.2 (by omega)));have aG:Hid ((AA f y.1.1).isSome=true):=Aa (by rw[I,Ri _ _ _ _ af.o];rfl);have bQ:Hid (Ik rs y.1.1 f):=Aa (by rw[I];exact WE _ _ _ bH.o);have bR:Hid (AL rs false m t=DW (j+1) (AL rs false (m-(j+1)) f)):=Aa (by have N:m-j=(m-(j+1))+1:=(by omega);rw[au.o,N,Ln (t':=f) (by rw[aB.o,bP.o]) b1.o,O0,Nat.add_comm 1 j]);have b2:Hid (Sl l (λb=>b≠w.heap.size/\b≠w.heap.size+1) k f.args):=by
      unfold Hid;rw[I];refine b0.mono λb hb _=>?_;rcases hb with h|h
      ·exact h.1
      ·have h8:=ab.o.lt; omega
     rw[<-I];clear bz b0 I B t0 t1 aD;have J:Hid (Below l.heap.size l (l.alloc (ze f k n))):=(Ag _ _).alloc (Al _) _;have NB:Hid (Ac (l.alloc (ze f k n)) l.heap.size (zF f k n) 31):=Ac.new l _ _;go_upto_region 12 with fail;have aw:=Aa (aE.o.below J.o aE.o.lt);have b3:=Aa (aF.o.below J.o aF.o.lt);have b4:=Aa (aa.o.below J.o aa.o.lt);have SN:=Aa (b2.o.later J.o);have b5:Hid (PV (l.alloc (ze f k n)) (λb=>b≠w.heap.size/\b≠w.heap.size+1) (.slice x y.1.1.length z) y.1.1):=(bx.o.later J.o).mono λb hb _=>bI.o b hb;have aH:=Aa (H.o.trans (J.o.mono H.o.size));have aI:l.heap.size+1<=(l.alloc (ze f k n)).heap.size:=(by simp);have cf:w.heap.size+2<=g.heap.size:=ab.o.lt;clear aE aF aa b2 bx H J;generalize (l.alloc (ze f k n))=A at *;have O:Hid (Below A.heap.size A A.drew):=below_drewN (Ag _ _) 1;refine D9 (S:=λw'=>Ac w' l.heap.size (zF f k n) 31/\Ac w' g.heap.size #[.slice x y.1.1.length z,.string y.1.2.name,.slice C y.1.2.args.length D,.string y.2.1.r.name,.slice ra y.2.1.r.args.length rc,.map (some q)] 73) (by kernel_rfl) ⟨NB.o.below O.o NB.o.lt,aw.o.below O.o aw.o.lt⟩ λhH=>?_;refine tkz 0 ?_ (hy:=by intro w' ax;have n0:w'.cell? (zD l.heap.size 0)=some (.string f.name):=ax.1.cell 0;have n1:w'.cell? (zD l.heap.size 1)=some (.slice k f.args.length n):=ax.1.cell 1;go_simp<;>with_reducible rfl);refine tkz 1 ?_;refine tkz 2 ?_ (hy:=by intro w' ax;have p0:w'.cell? (zD g.heap.size 0)=some (.slice x y.1.1.length z):=ax.2.cell 0;go_simp<;>with_reducible rfl);have b6:A.drew.heap.size=A.heap.size:=rfl;have ar:Hid (Ac A.drew w.heap.size (zF s a c) 31):=b3.o;have bS:Hid (Ac A.drew (w.heap.size+1) zd 31):=b4.o;have bT:Hid (Ac A.drew l.heap.size (zF f k n) 31):=NB.o;have bU:Hid (Ac A.drew g.heap.size #[.slice x y.1.1.length z,.string y.1.2.name,.slice C y.1.2.args.length D,.string y.2.1.r.name,.slice ra y.2.1.r.args.length rc,.map (some q)] 73):=aw.o;have bV:Hid (Sl A.drew (λb=>b≠w.heap.size/\b≠w.heap.size+1) k f.args):=SN.o.later O.o;have bW:Hid (PV A.drew (λb=>b≠w.heap.size/\b≠w.heap.size+1) (.slice x y.1.1.length z) y.1.1):=b5.o.later O.o;have bX:Hid (Below w.heap.size w A.drew):=aH.o.trans (O.o.mono aH.o.size);rw[<-b6]at aI;clear b6 b3 b4 NB aw SN b5 aH O;generalize A.drew=wd at *;have t0:=ar.o.c0;have t1:=ar.o.c1;have tf:=ar.o.frozen;have tl:=ar.o.lt;have FT:Hid (Ac ((wd.setCell (zD w.heap.size 0) (.string f.name)).setCell (zD w.heap.size 1) (.slice k f.args.length n)) w.heap.size (zF f k n) 31):=(ar.o.set 0 _).set 1 _;have FR:Hid (Ac ((wd.setCell (zD w.heap.size 0) (.string f.name)).setCell (zD w.heap.size 1) (.slice k f.args.length n)) (w.heap.size+1) zd 31):=(bS.o.setOther _ _ (by omega)).setOther _ _ (by omega);have FN:Hid (Ac ((wd.setCell (zD w.heap.size 0) (.string f.name)).setCell (zD w.heap.size 1) (.slice k f.args.length n)) l.heap.size (zF f k n) 31):=(bT.o.setOther _ _ (by omega)).setOther _ _ (by omega);have FC:Hid (Ac ((wd.setCell (zD w.heap.size 0) (.string f.name)).setCell (zD w.heap.size 1) (.slice k f.args.length n)) g.heap.size #[.slice x y.1.1.length z,.string y.1.2.name,.slice C y.1.2.args.length D,.string y.2.1.r.name,.slice ra y.2.1.r.args.length rc,.map (some q)] 73):=(bU.o.setOther _ _ (by omega)).setOther _ _ (by omega);have kS:∀b,b≠w.heap.size->(((wd.setCell (zD w.heap.size 0) (.string f.name)).setCell (zD w.heap.size 1) (.slice k f.args.length n))).heap[b]? = wd.heap[b]? := λb hb=>by rw[An _ _ _ _ (by simpa using hb),An _ _ _ _ (by simpa using hb)]
     have K5:Hid (Sl ((wd.setCell (zD w.heap.size 0) (.string f.name)).setCell (zD w.heap.size 1) (.slice k f.args.length n)) (λb=>b≠w.heap.size/\b≠w.heap.size+1) k f.args):=bV.o.kept λb hb=>kS b hb.1;have FP:Hid (PV ((wd.setCell (zD w.heap.size 0) (.string f.name)).setCell (zD w.heap.size 1) (.slice k f.args.length n)) (λb=>b≠w.heap.size/\b≠w.heap.size+1) (.slice x y.1.1.length z) y.1.1):=bW.o.kept λb hb=>kS b hb.1;have FB:Hid (Below w.heap.size w ((wd.setCell (zD w.heap.size 0) (.string f.name)).setCell (zD w.heap.size 1) (.slice k f.args.length n))):=(bX.o.setCell (by simp) _).setCell (by simp) _;have b7:(((wd.setCell (zD w.heap.size 0) (.string f.name)).setCell (zD w.heap.size 1) (.slice k f.args.length n))).heap.size=wd.heap.size:=(by simp[World.setCell]);have bY:=Aa b7;clear kS b7;refine rdq 3 rfl λK hK=>?_;go_simp;refine hK.o _ _ (by exact⟨FN.o,FC.o⟩) λhH=>?_;clear hK K;(try simp only[Act.put,sq]);refine tkz 4 ?_;refine dnq ?_;generalize ((wd.setCell (zD w.heap.size 0) (.string f.name)).setCell (zD w.heap.size 1) (.slice k f.args.length n))=ws at *;clear t0 t1 tf tl;go_wp2_with fail;go_roundw
     case rel=>exact⟨j+1,f,k,n,y.1.1,by omega,by go_num,bR.o,b1.o,aG.o,bQ.o,FT.o,K5.o,FP.o,FR.o,FB.o,by have:=bY.o; omega⟩
     case measure=>simp[intOf]; omega
    ·have V:Hid (AL rs false m t=(8,⟨⟨#[]⟩,[]⟩,0)):=Aa (by have N:m-j=(m-(j+1))+1:=(by omega);rw[au.o,N,Ll aB.o ((J0 (y:=y.2) (d:=y.1) af.o).1 aA)];exact Lo _ _ (by decide));clear aA B t0 t1;have r0:=aa.o.c0;have r1:=aa.o.c1;have rf:=aa.o.frozen;have rl:=aa.o.lt;go_wp2_with fail;have Y:Ac (((l.setCell (zD (w.heap.size+1) 0) (.string ⟨#[]⟩)).setCell (zD (w.heap.size+1) 1) zB).alloc zc) (w.heap.size+1) zd 31:=((aa.o.set 0 _).set 1 _).alloc _;have BF:Hid (Below w.heap.size w (((l.setCell (zD (w.heap.size+1) 0) (.string ⟨#[]⟩)).setCell (zD (w.heap.size+1) 1) zB).alloc zc)):=((H.o.setCell (by simp) _).setCell (by simp) _).alloc (by have:=H.o.size; simp[World.setCell]; omega) _;generalize (((l.setCell (zD (w.heap.size+1) 0) (.string ⟨#[]⟩)).setCell (zD (w.heap.size+1) 1) zB).alloc zc)=wf at *;have f0:=Y.c0;have f1:=Y.c1;refine Aq (v:=.tuple #[.agg zd,zA 0,zA 8]) (by simp[results,results24,go_sem,f0,f1]) rfl ?_;exact⟨BF.o,⟨⟨#[]⟩,[]⟩,none,0,0,8,rfl,V.o,⟨by simp,Ae rfl⟩⟩
def Db (rs:List Pr) (l:List Tm) (m:Int):Int:=if Gm rs l=0 then (if m<0∨400<m then 10 else 0) else Gm rs l
theorem Qx (rs:List Pr) (l:List Tm) (m:Int) (u:Value) (a:Option Addr) (c:Nat) (w:World) (X:Nat->Prop) (hu:QV w X u rs) (hs:Sl w X a l):
  Calls prog 22 #[u,zA m,.slice a l.length c] w λe w'=>e=.returned (zA (Db rs l m))/\Below w.heap.size w w':=by
 have f:=Aa hu;have g:=Aa hs;obtain⟨ua,uc,rfl,_,_⟩:=hu;clear hs;go_enter func22,ntmps22;go_wp2_with fail;refine(Wl rs l _ a c w X f.o g.o).mono ?_;rintro e w1 ⟨rfl,ab⟩;have aa:=Aa ab;clear ab;by_cases h0:Gm rs l=0
 ·have d:Hid (Db rs l m=if m<0∨400<m then 10 else 0):=Aa (by unfold Db;rw[Ao h0]);rw[h0];clear h0;by_cases h1:m<0
  ·have b:Hid (10=Db rs l m):=Aa (by rw[d.o,Ao (Ae h1)]);go_wp2_with fail;go_ret;exact⟨Cj b.o,aa.o⟩
  ·by_cases h2:400<m
   ·have b:Hid (10=Db rs l m):=Aa (by rw[d.o,Ao (Ad h2)]);go_wp2_with fail;go_ret;exact⟨Cj b.o,aa.o⟩
   ·have b:Hid (0=Db rs l m):=Aa (by rw[d.o,Ah (by omega)]);go_wp2_with fail;go_ret;exact⟨Cj b.o,aa.o⟩
 ·have b:Hid (Gm rs l=Db rs l m):=Aa (by unfold Db;rw[Ah h0]);go_wp2_with fail;go_ret;exact⟨Cj b.o,aa.o⟩
def Gn (rs:List Pr) (inner:Bool) (t:Tm) (m:Int):Int×Tm×Nat:=if Db rs [t] m=0 then AL rs inner m.toNat t else (Db rs [t] m,⟨⟨#[]⟩,[]⟩,0)
theorem Qy {m:Int} (h:Db rs l m=0):Bl rs=0/\Dt l=0/\0<=m/\m<=400:=by
 unfold Db at h;split at h
 ·rename_i h0;split at h
  ·cases h
  ·rename_i h1;unfold Gm at h0;split at h0
   ·rename_i h2; exact⟨h2,h0,by omega,by omega⟩
   ·rename_i h2; exact absurd h0 h2
 ·rename_i h0; exact absurd h h0
theorem pW (rs:List Pr) (t:Tm) (m:Int) (u:Value) (aa:Option Addr) (ca:Nat) (w:World) (X:Nat->Prop) (hu:QV w X u rs) (hs:Sl w X aa t.args):
  Calls prog 11 #[u,.agg (zF t aa ca),zA m] w λe w'=>NG (Gn rs true t m) w e w':=by
 have q:=Aa hu;have r:=Aa hs;obtain⟨ua,uc,rfl,_,_⟩:=hu;clear hs;have ab:=Aa (Fe [(.cells (zF t aa ca) 31:Obj),(.cells zd 31:Obj),(.cells (zF t aa ca) 31:Obj)] w);have s:Hid (∃W,W=((w.alloc (ze t aa ca)).alloc zc).alloc (ze t aa ca)/\Below w.heap.size w W/\Ac W w.heap.size (zF t aa ca) 31/\Ac W (w.heap.size+1) zd 31/\Ac W (w.heap.size+1+1) (zF t aa ca) 31):=⟨_,rfl,ab.o.1,ab.o.2.2 0 _ rfl,ab.o.2.2 1 _ rfl,ab.o.2.2 2 _ rfl⟩;go_enter func11,ntmps11;go_wp2_with fail;obtain⟨N,y,f,z,A,B⟩:=s.o;rw[<-y];have C:=Aa f;have D:=Aa z;have E:=Aa A;clear y s ab;refine(Qx rs [t] m _ _ 1 N (λ_=>True) ((q.o.later f).mono λ_ _ _=>trivial) (Qr B ((r.o.later f).mono λ_ _ _=>trivial))).mono ?_;rintro e w1 ⟨rfl,g⟩;have c:=Aa (C.o.trans (g.mono C.o.size));have F:=Aa (D.o.below g D.o.lt);have a:=Aa (E.o.below g E.o.lt);clear f z A B g;by_cases h0:Db rs [t] m=0
 ·obtain⟨k1,k2,k3,k4⟩:=Qy h0;have G:Av t=0:=by rw[NF] at k2; exact k2
  have a1:=Lg G;obtain⟨n,H⟩:∃n:Nat,m=(n:Int):=⟨m.toNat,by omega⟩;have h:Hid (Gn rs true t m=AL rs true n t):=Aa (by unfold Gn;rw[Ao h0,H];rfl);have O:=Aa (G1 k1);rw[h0];subst H;have t0:=F.o.c0;have t1:=F.o.c1;clear h0 k1 k2 G;go_wp2_with fail;refine(Qs rs O.o t n _ aa ca w1 X (q.o.later c.o) (r.o.later c.o) (by omega) (by omega)).mono ?_;rintro e w2 ⟨hb2,x,I,J,k,d,rfl,L,M⟩;have P:=Aa (c.o.trans (hb2.mono c.o.size));have i:=Aa (a.o.below hb2 a.o.lt);have R:=Aa M;have T:=Aa L;have a6:=hb2.size;clear hb2 M L t0 t1;have j:=i.o.c0;have l:=i.o.c1;have U:=i.o.frozen;go_wp2_with fail;refine Aq (v:=.tuple #[.agg (zF x I J),zA k,zA d]) (by simp[results,results11,go_sem,Az,Aw,j,l]) rfl ?_;have a7:=a.o.lt;refine⟨(P.o.setCell (by simp) _).setCell (by simp) _,x,I,J,k,d,rfl,h.o.trans T.o,(R.o.kept λb hb=>?_).mono λb hb _=>by omega⟩;rw[An _ _ _ _ (by simp; omega),An _ _ _ _ (by simp; omega)]
 ·have h:Hid (Gn rs true t m=(Db rs [t] m,⟨⟨#[]⟩,[]⟩,0)):=Aa (by unfold Gn;rw[Ah h0]);have j:=a.o.c0;have l:=a.o.c1;have U:=a.o.frozen;generalize Db rs [t] m=d at *;go_wp2_with fail;refine Aq (v:=.tuple #[.agg zd,zA 0,zA d]) (by simp[results,results11,go_sem,Az,Aw,j,l]) rfl ?_;exact⟨(c.o.setCell (by simp) _).setCell (by simp) _,⟨⟨#[]⟩,[]⟩,none,0,0,d,rfl,h.o,⟨by simp,Ae rfl⟩⟩
theorem pX (rs:List Pr) (t:Tm) (m:Int) (u:Value) (aa:Option Addr) (ca:Nat) (w:World) (X:Nat->Prop) (hu:QV w X u rs) (hs:Sl w X aa t.args):
  Calls prog 12 #[u,.agg (zF t aa ca),zA m] w λe w'=>NG (Gn rs false t m) w e w':=by
 have q:=Aa hu;have r:=Aa hs;obtain⟨ua,uc,rfl,_,_⟩:=hu;clear hs;have ab:=Aa (Fe [(.cells (zF t aa ca) 31:Obj),(.cells zd 31:Obj),(.cells (zF t aa ca) 31:Obj)] w);have s:Hid (∃W,W=((w.alloc (ze t aa ca)).alloc zc).alloc (ze t aa ca)/\Below w.heap.size w W/\Ac W w.heap.size (zF t aa ca) 31/\Ac W (w.heap.size+1) zd 31/\Ac W (w.heap.size+1+1) (zF t aa ca) 31):=⟨_,rfl,ab.o.1,ab.o.2.2 0 _ rfl,ab.o.2.2 1 _ rfl,ab.o.2.2 2 _ rfl⟩;go_enter func12,ntmps12;go_wp2_with fail;obtain⟨N,y,f,z,A,B⟩:=s.o;rw[<-y];have C:=Aa f;have D:=Aa z;have E:=Aa A;clear y s ab;refine(Qx rs [t] m _ _ 1 N (λ_=>True) ((q.o.later f).mono λ_ _ _=>trivial) (Qr B ((r.o.later f).mono λ_ _ _=>trivial))).mono ?_;rintro e w1 ⟨rfl,g⟩;have c:=Aa (C.o.trans (g.mono C.o.size));have F:=Aa (D.o.below g D.o.lt);have a:=Aa (E.o.below g E.o.lt);clear f z A B g;by_cases h0:Db rs [t] m=0
 ·obtain⟨k1,k2,k3,k4⟩:=Qy h0;have G:Av t=0:=by rw[NF] at k2; exact k2
  have a1:=Lg G;obtain⟨n,H⟩:∃n:Nat,m=(n:Int):=⟨m.toNat,by omega⟩;have h:Hid (Gn rs false t m=AL rs false n t):=Aa (by unfold Gn;rw[Ao h0,H];rfl);have O:=Aa (G1 k1);rw[h0];subst H;have t0:=F.o.c0;have t1:=F.o.c1;clear h0 k1 k2 G;go_wp2_with fail;refine(pU rs O.o t n _ aa ca w1 X (q.o.later c.o) (r.o.later c.o) (by omega) (by omega)).mono ?_;rintro e w2 ⟨hb2,x,I,J,k,d,rfl,L,M⟩;have P:=Aa (c.o.trans (hb2.mono c.o.size));have i:=Aa (a.o.below hb2 a.o.lt);have R:=Aa M;have T:=Aa L;have a6:=hb2.size;clear hb2 M L t0 t1;have j:=i.o.c0;have l:=i.o.c1;have U:=i.o.frozen;go_wp2_with fail;refine Aq (v:=.tuple #[.agg (zF x I J),zA k,zA d]) (by simp[results,results12,go_sem,Az,Aw,j,l]) rfl ?_;have a7:=a.o.lt;refine⟨(P.o.setCell (by simp) _).setCell (by simp) _,x,I,J,k,d,rfl,h.o.trans T.o,(R.o.kept λb hb=>?_).mono λb hb _=>by omega⟩;rw[An _ _ _ _ (by simp; omega),An _ _ _ _ (by simp; omega)]
 ·have h:Hid (Gn rs false t m=(Db rs [t] m,⟨⟨#[]⟩,[]⟩,0)):=Aa (by unfold Gn;rw[Ah h0]);have j:=a.o.c0;have l:=a.o.c1;have U:=a.o.frozen;generalize Db rs [t] m=d at *;go_wp2_with fail;refine Aq (v:=.tuple #[.agg zd,zA 0,zA d]) (by simp[results,results12,go_sem,Az,Aw,j,l]) rfl ?_;exact⟨(c.o.setCell (by simp) _).setCell (by simp) _,⟨⟨#[]⟩,[]⟩,none,0,0,d,rfl,h.o,⟨by simp,Ae rfl⟩⟩
def Il (rs:List Pr) (a b:Tm) (m:Int):Bool×Int:=if Db rs [a,b] m=0 then C3 rs m.toNat a b else (false,Db rs [a,b] m)
theorem pY {a:Tm} (h:CJ a b=0):Av a=0/\Av b=0:=by
 unfold CJ at h;split at h
 ·rename_i h1; exact⟨h1,h⟩
 ·rename_i h1; exact absurd h h1
theorem pZ (rs:List Pr) (t t2:Tm) (m:Int) (u:Value) (a a2:Option Addr) (c c2:Nat) (w:World) (X:Nat->Prop) (hu:QV w X u rs) (hs:Sl w X a t.args) (k:Sl w X a2 t2.args):
  Calls prog 16 #[u,.agg (zF t a c),.agg (zF t2 a2 c2),zA m] w λe w'=>e=.returned (.tuple #[.bool (Il rs t t2 m).1,zA (Il rs t t2 m).2])/\Below w.heap.size w w':=by
 have l:=Aa hu;have q:=Aa hs;have r:=Aa k;obtain⟨ua,uc,rfl,_,_⟩:=hu;clear hs k;have ab:=Aa (Fe [(.cells (zF t a c) 31:Obj),(.cells (zF t2 a2 c2) 31:Obj),(.cells #[.string t.name,.slice a t.args.length c,.string t2.name,.slice a2 t2.args.length c2] 31:Obj)] w);have s:Hid (∃W,W=((w.alloc (ze t a c)).alloc (ze t2 a2 c2)).alloc (zh #[.string t.name,.slice a t.args.length c,.string t2.name,.slice a2 t2.args.length c2] 31)/\Below w.heap.size w W/\Ac W w.heap.size (zF t a c) 31/\Ac W (w.heap.size+1) (zF t2 a2 c2) 31/\Ac W (w.heap.size+1+1) #[.string t.name,.slice a t.args.length c,.string t2.name,.slice a2 t2.args.length c2] 31):=⟨_,rfl,ab.o.1,ab.o.2.2 0 _ rfl,ab.o.2.2 1 _ rfl,ab.o.2.2 2 _ rfl⟩;go_enter func16,ntmps16;go_wp2_with fail;obtain⟨J,x,b,y,z,A⟩:=s.o;rw[<-x];have B:=Aa b;have C:=Aa y;have D:=Aa z;clear x s ab;refine(Qx rs [t,t2] m _ _ 2 J (λ_=>True) ((l.o.later b).mono λ_ _ _=>trivial) (V6 A ((q.o.later b).mono λ_ _ _=>trivial) ((r.o.later b).mono λ_ _ _=>trivial))).mono ?_;rintro e w1 ⟨rfl,d⟩;have aa:=Aa (B.o.trans (d.mono B.o.size));have E:=Aa (C.o.below d C.o.lt);have F:=Aa (D.o.below d D.o.lt);clear b y z A d;by_cases h0:Db rs [t,t2] m=0
 ·obtain⟨k1,k2,k3,k4⟩:=Qy h0;rw[V5]at k2;obtain⟨G,H⟩:=pY k2;have ay:=Lg G;have az:=Lg H;obtain⟨n,I⟩:∃n:Nat,m=(n:Int):=⟨m.toNat,by omega⟩;have f:Hid (Il rs t t2 m=C3 rs n t t2):=Aa (by unfold Il;rw[Ao h0,I];rfl);have L:=Aa (G1 k1);rw[h0];subst I;have t0:=E.o.c0;have t1:=E.o.c1;have M:=F.o.c0;have s1:=F.o.c1;clear h0 k1 k2 G H;go_wp2_with fail;refine(Wn rs L.o t t2 n _ a a2 c c2 w1 X (l.o.later aa.o) (q.o.later aa.o) (r.o.later aa.o) (by omega) (by omega) (by omega)).mono ?_;rintro e w2 ⟨rfl,hb2⟩;have N:=Aa (aa.o.trans (hb2.mono aa.o.size));clear hb2 t0 t1 M s1;obtain⟨g,h,hq⟩:∃g h,C3 rs n t t2=(g,h):=⟨_,_,rfl⟩;rw[hq];have O:=Aa hq;clear hq;go_wp2_with fail;refine Aq (v:=.tuple #[.bool g,zA h]) (by simp[results,results16,go_sem]) rfl ?_;exact⟨by rw[f.o,O.o],N.o⟩
 ·have f:Hid (Il rs t t2 m=(false,Db rs [t,t2] m)):=Aa (by unfold Il;rw[Ah h0]);obtain⟨i,j⟩:∃i,Db rs [t,t2] m=i:=⟨_,rfl⟩;rw[j]at h0 f;rw[j];clear j;go_wp2_with fail;refine Aq (v:=.tuple #[.bool false,zA i]) (by simp[results,results16,go_sem]) rfl ?_;exact⟨by rw[f.o],aa.o⟩
def GO (t:Tm):ByteArray:=⟨(AK [t]).toArray⟩
theorem qA {u:Tm} (ht:Af [t]=0) (hu:Af [u]=0) (h:GO t=GO u):t=u:=by
 refine Ym ht hu ?_;unfold GO at h;have h1:(AK [t]).toArray=(AK [u]).toArray:=by injection h
 simpa using Cb Array.toList h1
def EG:Nat->List Tm->List (ByteArray×Value)
 |_,[]=>[]
 |i,t::S=>(GO t,zA i)::EG (i+1) S
theorem WF:∀(S:List Tm) (i:Nat),(EG i S).length=S.length
 | [],i=>rfl
 |t::S,i=>by simp[EG,WF S]
theorem WG:∀(S:List Tm) (t:Tm) (i:Nat),EG i (S++[t])=EG i S++[(GO t,zA (i+S.length))]
 | [],t,i=>by simp[EG]
 |x::S,t,i=>by
  rw[Bj,EG,EG,WG S t (i+1),Bj];simp only[Bg];rw[show(((i+1:Nat):Int)+(S.length:Int))=(i:Int)+((S.length+1:Nat):Int) by omega]
theorem WH {t:Tm} (ht:Af [t]=0):∀(S:List Tm) (i:Nat),(∀x∈S,Af [x]=0)->AG (EG i S) (GO t)=if Am t S<S.length then some (zA (i+Am t S)) else none
 | [],i,_=>by simp[EG,AG,Am]
 |x::S,i,h=>by
  rw[EG,AG,Am];by_cases hs:AP x t=true
  ·have e:=Cr.1 hs;subst e;simp[hs]
  ·have b:GO x≠GO t:=λe=>hs (Cr.2 (qA (h x (by simp)) ht e));rw[Ah b,Ah hs,WH ht S (i+1) λy hy=>h y (by simp[hy])];simp only[Bg];by_cases a:Am t S<S.length
   ·rw[Ao a,Ao (by omega)];congr 2
    omega
   ·rw[Ah a,Ah (by omega)]
def DZ:Nat->List ByteArray->List (ByteArray×Value)
 |_,[]=>[]
 |i,n::r=>(n,zA (i+1))::DZ (i+1) r
theorem WI:∀(r:List ByteArray) (n:ByteArray) (i:Nat),DZ i (r++[n])=DZ i r++[(n,zA (i+r.length+1))]
 | [],n,i=>by simp[DZ]
 |x::r,n,i=>by
  rw[Bj,DZ,DZ,WI r n (i+1),Bj];simp only[Bg];rw[show(((i+1:Nat):Int)+(r.length:Int)+1)=(i:Int)+((r.length+1:Nat):Int)+1 by omega]
theorem Qz (n:ByteArray):∀(r:List ByteArray) (i:Nat),AG (DZ i r) n=if AU n r=0 then none else some (zA (i+AU n r))
 | [],i=>by simp[DZ,AG,AU]
 |x::r,i=>by
  rw[DZ,AG,AU];by_cases h:x=n
  ·simp[h]
  ·rw[Ah h,Ah h,Qz n r (i+1)];cases AU n r with
   |zero=>simp
   |succ k=>
    simp only[Nat.add_eq_zero_iff];rw[Ah (by omega),Ah (by omega)];congr 2
    omega
theorem WJ {n:ByteArray}:∀ {r:List ByteArray},n∉r->AU n r=0
 | [],_=>rfl
 |x::r,h=>by
  rw[Bh,not_or]at h;rw[AU,Ah λe=>h.1 e.symm,WJ h.2]
theorem qB (n:ByteArray) (r:List ByteArray):(AG (DZ 0 r) n).getD (zA 0)=zA (AU n r):=by
 rw[Qz];by_cases h:AU n r=0
 ·rw[Ao h,h]; rfl
 ·rw[Ah h]; simp
def Do (a b:Int):Int:=if a<b then -1 else if b<a then 1 else 0
def Jl (row:List ByteArray) (a b:Tm):Int:=
 if Do (AU a.name row) (AU b.name row)≠0 then Do (AU a.name row) (AU b.name row)
 else if Ea a.name b.name≠0 then Ea a.name b.name
 else Do a.args.length b.args.length
theorem WK {a b:ByteArray}:Ea a b=0↔a=b:=by
 unfold Ea;constructor
 ·intro h;cases h1:B8 a b with
  |true=>rw[h1] at h; simp at h
  |false=>
   cases h2:B8 b a with
   |true=>rw[h1,h2] at h; simp at h
   |false=>exact JH h1 h2
 ·rintro rfl;simp[JG]
theorem qC (row:List ByteArray) (a b:Tm):(Bq row a b=true/\Jl row a b=1)∨(Bq row b a=true/\Jl row a b=-1)∨(Bq row a b=false/\Bq row b a=false/\Jl row a b=0):=by
 unfold Jl;by_cases h1:AU a.name row=AU b.name row
 ·have c1:Do (AU a.name row) (AU b.name row)=0:=by unfold Do; rw[h1]; simp
  rw[Ah (by simp[c1])];by_cases h2:a.name=b.name
  ·have c2:Ea a.name b.name=0:=WK.2 h2;rw[Ah (by simp[c2])];have g:∀x y:Tm,AU x.name row=AU y.name row->x.name=y.name->Bq row x y=decide (y.args.length<x.args.length):=λx y c d=>by
    unfold Bq;rw[Ah (by simpa using c),Ah (by simpa using d)]
   rw[g a b h1 h2,g b a h1.symm h2.symm];unfold Do;rcases Nat.lt_trichotomy a.args.length b.args.length with h|h|h
   ·refine Ad (Ae ⟨by simpa using h,?_⟩);rw[Ao (by omega)]
   ·refine Ad (Ad ⟨by simp; omega,by simp; omega,?_⟩);rw[Ah (by omega),Ah (by omega)]
   ·refine Ae ⟨by simpa using h,?_⟩;rw[Ah (by omega),Ao (by omega)]
  ·have c2:Ea a.name b.name≠0:=λe=>h2 (WK.1 e);rw[Ao c2];have g:∀x y:Tm,AU x.name row=AU y.name row->x.name≠y.name->Bq row x y=B8 y.name x.name:=λx y c d=>by
    unfold Bq;rw[Ah (by simpa using c),Ao d]
   rw[g a b h1 h2,g b a h1.symm (λe=>h2 e.symm)];unfold Ea;cases l1:B8 a.name b.name with
   |true=>exact Ad (Ae ⟨rfl,by simp⟩)
   |false=>
    cases l2:B8 b.name a.name with
    |true=>exact Ae ⟨rfl,by simp⟩
    |false=>exact absurd (JH l1 l2) h2
 ·have g:∀x y:Tm,AU x.name row≠AU y.name row->Bq row x y=decide (AU y.name row<AU x.name row):=λx y c=>by
   unfold Bq;rw[Ao c]
  rw[g a b h1,g b a (λe=>h1 e.symm)];unfold Do;rcases Nat.lt_trichotomy (AU a.name row) (AU b.name row) with h|h|h
  ·refine Ad (Ae ⟨by simpa using h,?_⟩);have e:((AU a.name row:Nat):Int)<((AU b.name row:Nat):Int):=(by omega);simp only[Ao e];simp
  ·exact absurd h h1
  ·refine Ae ⟨by simpa using h,?_⟩;have f:¬((AU a.name row:Nat):Int)<((AU b.name row:Nat):Int):=(by omega);have i:((AU b.name row:Nat):Int)<((AU a.name row:Nat):Int):=(by omega);simp only[Ah f,Ao i];simp
def D1 (w:World) (X:Nat->Prop) (S:List Tm):Nat->Nat->List Tm->Prop
 |_,_,[]=>True
 |b,o,⟨s,l⟩::r=>X b/\(⟨s,l⟩:Tm)∈S/\w.cell? (zD b o)=some (.string s)/\
   (∃a c,w.cell? ⟨b,o+1,none⟩=some (.slice a l.length c)/\l.length<=9223372036854775807/\(l=[]∨∃b' o',a=some (zD b' o')/\D1 w X S b' o' l))/\
   w.cell? ⟨b,o+2,none⟩=some (zA (Am ⟨s,l⟩ S))/\w.cell? ⟨b,o+3,none⟩=some (zA (Ab [⟨s,l⟩]))/\D1 w X S b (o+4) r
def Ca (w:World) (X:Nat->Prop) (S:List Tm) (a:Option Addr) (l:List Tm):Prop:=l.length<=9223372036854775807/\(l=[]∨∃b o,a=some (zD b o)/\D1 w X S b o l)
def IV (w:World) (X:Nat->Prop) (S:List Tm) (v:Value) (t:Tm):Prop:=t∈S/\∃a c,v=.agg #[.string t.name,.slice a t.args.length c,zA (Am t S),zA (Ab [t])]/\Ca w X S a t.args
theorem qD (h:∀b,X b->w'.heap[b]? = w.heap[b]?) (l:List Tm):∀b o,D1 w X S b o l->D1 w' X S b o l:=by
 induction l using Tm.indL with
 |h0=>intro b o _; simp[D1]
 |h s l r aa ab=>
  intro b o f;simp only[D1] at f ⊢;obtain⟨hx,hm,h1,⟨a,c,h2,g,h3⟩,d,h6,i⟩:=f;have e:=λo=>Ce (w:=w) (w':=w') (a:=(zD b o)) (h b hx);refine⟨hx,hm,by rw[e]; exact h1,⟨a,c,by rw[e]; exact h2,g,?_⟩,by rw[e]; exact d,by rw[e]; exact h6,ab _ _ i⟩;rcases h3 with h3|⟨b',o',h3,d⟩
  ·exact Ae h3
  ·exact Ad ⟨b',o',h3,aa _ _ d⟩
theorem qE (h:∀b,X b->b<w.heap.size->Y b) (l:List Tm):∀b o,D1 w X S b o l->D1 w Y S b o l:=by
 induction l using Tm.indL with
 |h0=>intro b o _; simp[D1]
 |h s l r aa ab=>
  intro b o f;simp only[D1] at f ⊢;obtain⟨hx,hm,h1,⟨a,c,h2,g,h3⟩,d,h6,i⟩:=f;have hb:b<w.heap.size:=by
   apply EX;intro hn;have e:w.heap[b]? = none:=Jo (by omega);simp[World.cell?,e]at h1
  refine⟨h b hx hb,hm,h1,⟨a,c,h2,g,?_⟩,d,h6,ab _ _ i⟩;rcases h3 with h3|⟨b',o',h3,d⟩
  ·exact Ae h3
  ·exact Ad ⟨b',o',h3,aa _ _ d⟩
theorem qF (R:List Tm) (l:List Tm):∀b o,D1 w X S b o l->D1 w X (S++R) b o l:=by
 induction l using Tm.indL with
 |h0=>intro b o _; simp[D1]
 |h s l r aa ab=>
  intro b o e;simp only[D1] at e ⊢;obtain⟨hx,hm,h1,⟨a,c,h2,f,h3⟩,d,h6,g⟩:=e;refine⟨hx,GX _ hm,h1,⟨a,c,h2,f,?_⟩,by rw[IU R hm]; exact d,h6,ab _ _ g⟩;rcases h3 with h3|⟨b',o',h3,d⟩
  ·exact Ae h3
  ·exact Ad ⟨b',o',h3,aa _ _ d⟩
theorem Ca.kept (h:Ca w X S a l) (hk:∀b,X b->w'.heap[b]? = w.heap[b]?):Ca w' X S a l:=by
 obtain⟨c,h⟩:=h;refine⟨c,?_⟩;rcases h with h|⟨b,o,e,h⟩
 ·exact Ae h
 ·exact Ad ⟨b,o,e,qD hk _ _ _ h⟩
theorem Ca.mono (h:Ca w X S a l) (hk:∀b,X b->b<w.heap.size->Y b):Ca w Y S a l:=by
 obtain⟨c,h⟩:=h;refine⟨c,?_⟩;rcases h with h|⟨b,o,e,h⟩
 ·exact Ae h
 ·exact Ad ⟨b,o,e,qE hk _ _ _ h⟩
theorem Ca.more (h:Ca w X S a l) (R:List Tm):Ca w X (S++R) a l:=by
 obtain⟨c,h⟩:=h;refine⟨c,?_⟩;rcases h with h|⟨b,o,e,h⟩
 ·exact Ae h
 ·exact Ad ⟨b,o,e,qF R _ _ _ h⟩
theorem Ca.below (h:Ca w X S a l) (hb:Below B w w') (c:∀b,X b->b<w.heap.size->b<B):Ca w' X S a l:=by
 have h1:Ca w (λb=>X b/\b<B) S a l:=h.mono λb hx hs=>⟨hx,c b hx hs⟩;have h2:Ca w' (λb=>X b/\b<B) S a l:=h1.kept λb hx=>hb.block b hx.2;exact h2.mono λb hx _=>hx.1
theorem Ca.later (h:Ca w X S a l) (hb:Below w.heap.size w w'):Ca w' X S a l:=h.below hb (λ_ _ h=>h)
theorem IV.kept (h:IV w X S v t) (hk:∀b,X b->w'.heap[b]? = w.heap[b]?):IV w' X S v t:=by
 obtain⟨hm,a,c,e,h⟩:=h;exact⟨hm,a,c,e,h.kept hk⟩
theorem IV.mono (h:IV w X S v t) (hk:∀b,X b->b<w.heap.size->Y b):IV w Y S v t:=by
 obtain⟨hm,a,c,e,h⟩:=h;exact⟨hm,a,c,e,h.mono hk⟩
theorem IV.more (h:IV w X S v t) (R:List Tm):IV w X (S++R) v t:=by
 obtain⟨hm,a,c,e,h⟩:=h;exact⟨GX _ hm,a,c,by rw[IU R hm]; exact e,h.more R⟩
theorem IV.later (h:IV w X S v t) (hb:Below w.heap.size w w'):IV w' X S v t:=by
 obtain⟨hm,a,c,e,h⟩:=h;exact⟨hm,a,c,e,h.later hb⟩
theorem IV.alloc (h:IV w X S v t) (o:Obj):IV (w.alloc o) X S v t:=h.later ((Ag _ _).alloc (Al _) o)
theorem qG:∀(l:List Tm) (b o:Nat),D1 w X S b o l->∀i (h:i<l.length),
  X b/\l[i]∈S/\w.cell? ⟨b,o+i*4,none⟩=some (.string l[i].name)/\w.cell? ⟨b,o+i*4+2,none⟩=some (zA (Am l[i] S))/\w.cell? ⟨b,o+i*4+3,none⟩=some (zA (Ab [l[i]]))/\
   ∃a c,w.cell? ⟨b,o+i*4+1,none⟩=some (.slice a l[i].args.length c)/\Ca w X S a l[i].args:=by
 intro l;induction l with
 |nil=>intro b o _ i h; simp at h
 |cons t r e=>
  intro b o d i h;obtain⟨s,k⟩:=t;simp only[D1] at d;obtain⟨hx,hm,h1,⟨a,c,h2,h3⟩,f,h6,g⟩:=d;cases i with
  |zero=>exact⟨hx,hm,h1,f,h6,a,c,h2,h3⟩
  |succ i=>have:=e b (o+4) g i (by simpa using h);simp only[FX];rw[show o+(i+1)*4=o+4+i*4 by omega];exact this
theorem Ca.get {wr:World} (h:Ca w X S a l) (hb:Below B w wr) (c:∀b,X b->b<w.heap.size->b<B) (k:Nat) (hk:k<l.length):
  ∃b o a' c',a=some (zD b o)/\wr.cell? ⟨b,o+k*4,none⟩=some (.string l[k].name)/\wr.cell? ⟨b,o+k*4+1,none⟩=some (.slice a' l[k].args.length c')/\wr.cell? ⟨b,o+k*4+2,none⟩=some (zA (Am l[k] S))/\wr.cell? ⟨b,o+k*4+3,none⟩=some (zA (Ab [l[k]]))/\
   IV wr X S (.agg #[.string l[k].name,.slice a' l[k].args.length c',zA (Am l[k] S),zA (Ab [l[k]])]) l[k]:=by
 have h':=h.below hb c;obtain⟨_,h1⟩:=h';rcases h1 with h1|⟨b,o,e,h1⟩
 ·subst h1; simp at hk
 ·obtain⟨_,hm,h2,d,h6,a',c',h3,f⟩:=qG _ _ _ h1 k hk;exact⟨b,o,a',c',e,h2,h3,d,h6,hm,a',c',rfl,f⟩
def Er (w:World) (X:Nat->Prop) (S:List Tm):List Tm->List Value->Prop
 | [],xs=>xs=[]
 |t::l,xs=>t∈S/\∃a c r,xs=.string t.name::.slice a t.args.length c::zA (Am t S)::zA (Ab [t])::r/\Ca w X S a t.args/\Er w X S l r
theorem Er.append:∀ {l k:List Tm} {xs b:List Value},Er w X S l xs->Er w X S k b->Er w X S (l++k) (xs++b)
 | [],k,xs,b,h,h'=>by simp[Er] at h; subst h; simpa using h'
 |t::l,k,xs,b,h,h'=>by
  obtain⟨hm,a,c,r,rfl,hs,h⟩:=h;exact⟨hm,a,c,r++b,rfl,hs,Er.append h h'⟩
theorem Er.imp (hs:∀a l,Ca w X S a l->Ca w' Y S a l):∀ {l:List Tm} {xs:List Value},Er w X S l xs->Er w' Y S l xs
 | [],xs,h=>h
 |t::l,xs,h=>by
  obtain⟨hm,a,c,r,e,h1,h⟩:=h;exact⟨hm,a,c,r,e,hs _ _ h1,Er.imp hs h⟩
theorem Er.more (R:List Tm):∀ {l:List Tm} {xs:List Value},Er w X S l xs->Er w X (S++R) l xs
 | [],xs,h=>h
 |t::l,xs,h=>by
  obtain⟨hm,a,c,r,e,h1,h⟩:=h;exact⟨GX _ hm,a,c,r,by rw[IU R hm]; exact e,h1.more R,Er.more R h⟩
theorem qH (b:Nat) (hb:Y b):∀(l:List Tm) (xs:List Value) (o:Nat),Er w X S l xs->(∀a k,Ca w X S a k->Ca w' Y S a k)->(∀j u,xs[j]? = some u->w'.cell? ⟨b,o+j,none⟩=some u)->D1 w' Y S b o l:=by
 intro l;induction l with
 |nil=>intro xs o _ _ _; simp[D1]
 |cons t r d=>intro xs o h hs hc;obtain⟨s,k⟩:=t;obtain⟨hm,a,c,e,rfl,h1,h2⟩:=h;simp only[D1];obtain⟨h3,f⟩:=hs _ _ h1;refine⟨hb,hm,hc 0 _ rfl,⟨a,c,hc 1 _ rfl,h3,f⟩,hc 2 _ rfl,hc 3 _ rfl,d e (o+4) h2 hs λj u hj=>?_⟩;have:=hc (j+4) u (by simpa using hj);rwa [show o+(j+4)=o+4+j by omega] at this
structure Dj (w:World) (N:Nat) (T:Nat) (S:List Tm) (v:Value) (l:List Tm) (xs:List Value):Prop where
 own:w.ownsRow N T 4 v l.length xs
 row:Er w (λb=>N<=b/\some b≠v.ownBlock) S l xs
theorem Dj.start (w:World) (N T:Nat) (S:List Tm):Dj w N T S zB [] []:=⟨GT w N T 4,rfl⟩
theorem Dj.more (h:Dj w N T S v l xs) (R:List Tm):Dj w N T (S++R) v l xs:=⟨h.own,h.row.more R⟩
theorem Dj.ne (h:Dj w N T S v l xs) {b:Nat} (hb:b<N):some b≠v.ownBlock:=λe=>by
 have:=(h.own.lt b e.symm).1; omega
theorem Dj.kept (h:Dj w N T S v l xs) (hk:∀b,N<=b->b<w.heap.size->w'.heap[b]? = w.heap[b]?) (hs:w.heap.size<=w'.heap.size) (ho:w'.os=w.os) (ht:w'.tape=w.tape) (hp:w'.output=w.output):Dj w' N T S v l xs:=by
 obtain⟨aa,ab⟩:=h;have d:=aa.lt;refine⟨?_,?_⟩
 ·obtain⟨h0,h1⟩:=aa;refine⟨h0,?_⟩;rcases h1 with h1|⟨g,cap,cur,hv,c,e,f⟩
  ·exact Ae h1
  ·subst hv;have:=(d g rfl).2;exact Ad ⟨g,cap,cur,rfl,c,(hk g c this).trans e,f⟩
 ·refine ab.imp λa k i=>?_;have h1:Ca w (λb=>(N<=b/\some b≠v.ownBlock)/\b<w.heap.size) S a k:=i.mono λb h1 h2=>⟨h1,h2⟩;exact(h1.kept λb hb=>hk b hb.1.1 hb.2).mono λb hb _=>hb.1
theorem Dj.sl (h:Dj w N T S v l xs):∃a c,v=.slice a l.length c/\Ca w (λb=>N<=b) S a l:=by
 have aa:l.length<=9223372036854775807:=by
  rcases h.own.2 with ⟨_,h0⟩|⟨g,cap,cur,_,_,_,h1,h2,_⟩
  ·omega
  ·unfold maxLen at h2; omega
 by_cases h0:0<l.length
 ·obtain⟨g,cap,rfl,d,hlt,hc⟩:=G0 h.own h0;exact⟨_,_,rfl,aa,Ad ⟨g,0,rfl,qH g d l xs 0 h.row (λa k hs=>hs.mono λb hb _=>hb.1) (λj u hj=>by simpa using hc j u hj)⟩⟩
 ·have e:l=[]:=Fj.1 (by omega);subst e;rcases h.own.2 with ⟨hv,_⟩|⟨g,cap,cur,hv,_⟩
  ·exact⟨none,0,hv,aa,Ae rfl⟩
  ·exact⟨_,_,hv,aa,Ae rfl⟩
theorem Dj.push {w3:World} (h:Dj w1 N T S v l xs) {M:Nat} (hN:N<=M) {c:Nat}
  (d:∀b,some b=v.ownBlock->b<M)
  (ht:IV w1 (λb=>M<=b) S (.agg #[.string t.name,.slice a t.args.length c,zA (Am t S),zA (Ab [t])]) t) (o:Obj) (i:w2=w1.alloc o) {g cap:Nat}
  (aa:w3.ownsRow N T 4 (.slice (some (zD g 0)) (l.length+1) cap) (l.length+1) (xs++[.string t.name,.slice a t.args.length c,zA (Am t S),zA (Ab [t])])) (f:w2.grownBy w3 v.ownBlock) (ab:v.ownBlock=some g∨g=w2.heap.size):
  Dj w3 N T S (.slice (some (zD g 0)) (l.length+1) cap) (l++[t]) (xs++[.string t.name,.slice a t.args.length c,zA (Am t S),zA (Ab [t])]):=by
 subst i;have hlt:=h.own.lt;refine⟨by simpa using aa,?_⟩;have ae:N<=g∨True:=Ad trivial;have af:(w1.alloc o).heap.size=w1.heap.size+1:=by simp
 refine Er.append (h.row.imp λa' k' hs=>?_) ?_
 ·have h1:Ca w1 (λb=>(N<=b/\some b≠v.ownBlock)/\b<w1.heap.size) S a' k':=hs.mono λb h1 h2=>⟨h1,h2⟩;have h2:Ca w3 (λb=>(N<=b/\some b≠v.ownBlock)/\b<w1.heap.size) S a' k':=h1.kept λb hx=>by
   rw[f.block b (by omega) hx.1.2,Ay _ _ _ hx.2]
  refine h2.mono λb hx _=>⟨hx.1.1,λe=>?_⟩;simp[Value.ownBlock]at e;rcases ab with e'|e'
  ·exact hx.1.2 (by rw[e',e])
  ·omega
 ·obtain⟨hm,a2,c2,e,hs⟩:=ht;simp at e;obtain⟨rfl,rfl⟩:=e;refine⟨hm,a,c,[],rfl,?_,rfl⟩;have h1:Ca w1 (λb=>M<=b/\b<w1.heap.size) S a t.args:=hs.mono λb h1 h2=>⟨h1,h2⟩;have h2:Ca w3 (λb=>M<=b/\b<w1.heap.size) S a t.args:=h1.kept λb hx=>by
   have j:some b≠v.ownBlock:=λe=>by have:=d b e; omega
   rw[f.block b (by omega) j,Ay _ _ _ hx.2]
  refine h2.mono λb hx _=>⟨by omega,λe=>?_⟩;simp[Value.ownBlock]at e;rcases ab with e'|e'
  ·have:=d g e'.symm; omega
  ·omega
theorem Dj.setCell (h:Dj w N T S v l xs) {b i:Nat} (hb:b<N) (u:Value):Dj (w.setCell (zD b i) u) N T S v l xs:=
 ⟨ownsRow_setCell_below h.own (by simpa using hb) u,h.row.imp λa k hs=>hs.kept λc hc=>An _ _ _ _ (by simp; omega)⟩
def QA (row:List ByteArray):Prop:=∀k (h:k<row.length),row[k]∉row.take k
def qI (w:World) (row:List ByteArray) (v:Value) (wr:World):Prop:=∃k:Nat,v=zA k/\k<=row.length/\AO wr w.heap.size (DZ 0 (row.take k))/\Below w.heap.size w wr
theorem qJ (row:List ByteArray) (ho:QA row) (u:Value) (w:World) (X:Nat->Prop) (hu:LV Value.string w X u row):
  Calls prog 52 #[u] w λe w'=>e=.returned (.map (some w.heap.size))/\AO w' w.heap.size (DZ 0 row)/\Below w.heap.size w w':=by
 obtain⟨a,c,rfl,⟨hl,_⟩,hu⟩:=hu;have ao:=@run_makeMap prog;go_enter func52,ntmps52;go_wp2_with fail;go_loopw [9] (λv wr=>qI w row v wr) (λv wr=>row.length-(intOf v).toNat);case atStart=>exact⟨0,rfl,Be _,AO.new w,(Ag _ _).alloc (Al _) _⟩
 case round=>
  obtain⟨k,rfl,hk,g,hb⟩:=hrel;by_cases f:k<row.length
  ·obtain⟨b,o,rfl,hX,hc⟩:=hu.resolve_left (λh=>by rw[h] at f; simp at f);have aj:(k:Int)<(row.length:Int):=(by omega);have d0:wr.cell? ⟨b,o+k,none⟩=some (.string row[k]):=by
    have h1:=hc k f;have h2:=DR h1;rw[<-h1]; exact hb.cell (p:=⟨b,o+k,none⟩) h2
   have ab:AG (DZ 0 (row.take k)) row[k]=none:=by rw[Qz,WJ (ho k f)]; rfl
   have aa:DZ 0 (row.take (k+1))=DZ 0 (row.take k)++[(row[k],zA ((k:Int)+1))]:=(by rw[Ci f,WI];simp[List.length_take,Nat.min_eq_left (Nat.le_of_lt f)]);have s:=Aa aa;clear aa hc;generalize row[k]=d at *;obtain⟨w2,hrun,i,l,m,n,q,r⟩:=Iw (P:=prog) underlying97 underlying9 g d (zA ((k:Int)+1)) ab;have t:=Aa i;have x:Hid (Below w.heap.size w w2):=⟨m.trans hb.os,n.trans hb.tape,q.trans hb.output,by rw[l]; exact hb.size,λj hj=>(r j (by omega)).trans (hb.block j hj)⟩;clear i l m n q r ab g hb;go_wp2_with fail;go_roundw
   case rel=>exact⟨k+1,by go_num,by omega,by rw[s.o]; exact t.o,x.o⟩
   case measure=>simp[intOf]; omega
  ·have aa:row.take k=row:=BH (by omega);rw[aa]at g;go_wp2_with fail;go_ret;exact⟨rfl,g,hb⟩
theorem QC (a:Int) (w:World):Calls prog 144 #[zA a] w λe w'=>e=.returned (.bool false)/\w'=w:=by
 go_enter func144,ntmps144;go_wp2_with fail;go_ret;exact⟨by simp,rfl⟩
theorem WL (a b:Int) (w:World):Calls prog 126 #[zA a,zA b] w λe w'=>e=.returned (zA (Do a b))/\w'=w:=by
 by_cases h1:a<b
 ·have c:Hid (Do a b=-1):=Aa (by unfold Do;rw[Ao h1]);go_enter func126,ntmps126;go_wp2_with (go_at_call 144; refine(QC _ _).mono ?_; rintro e w' ⟨rfl,rfl⟩);go_ret;exact⟨by rw[c.o]; rfl,rfl⟩
 ·by_cases h2:b<a
  ·have c:Hid (Do a b=1):=Aa (by unfold Do;rw[Ah h1,Ao h2]);go_enter func126,ntmps126;go_wp2_with (go_at_call 144; refine(QC _ _).mono ?_; rintro e w' ⟨rfl,rfl⟩);go_ret;exact⟨by rw[c.o]; rfl,rfl⟩
  ·have c:Hid (Do a b=0):=Aa (by unfold Do;rw[Ah h1,Ah h2]);go_enter func126,ntmps126;go_wp2_with (go_at_call 144; refine(QC _ _).mono ?_; rintro e w' ⟨rfl,rfl⟩);go_ret;exact⟨by rw[c.o]; rfl,rfl⟩
def Gp (l:List Int):Int:=(l.find? λz=>decide (z≠0)).getD 0
theorem WM {l:List Int} {k:Nat} (hk:k<l.length) (h:∀z∈l.take k,z=0) (hz:l[k]≠0):Gp l=l[k]:=by
 induction l generalizing k with
 |nil=>simp at hk
 |cons x l a=>
  cases k with
  |zero=>simp only[Gs] at hz ⊢; simp[Gp,hz]
  |succ k=>have hx:x=0:=h x (by simp);subst hx;have:=a (k:=k) (by simpa using hk) (λz aa=>h z (by simp[aa])) (by simpa using hz);simp only[FX];rw[<-this];simp[Gp]
theorem WN {l:List Int} (h:∀z∈l,z=0):Gp l=0:=by
 induction l with
 |nil=>rfl
 |cons x l a=>have hx:x=0:=h x (by simp);subst hx;have h1:=a λz hz=>h z (by simp[hz]);unfold Gp at h1 ⊢;rw[List.find?_cons_of_neg (by simp)];exact h1
theorem qK (l:List Int) (v:Value) (w:World) (X:Nat->Prop) (hv:LV (λz=>zA z) w X v l):
  Calls prog 125 #[v] w λe w'=>e=.returned (zA (Gp l))/\Below w.heap.size w w':=by
 obtain⟨a,c,rfl,⟨hl,_⟩,hu⟩:=hv;go_enter func125,ntmps125;go_wp2_with fail;go_loopw [8] (λi wr=>∃k n:Nat,k<=l.length/\i=zA k/\wr=w.drewN n/\∀z∈l.take k,z=0) (λi wr=>l.length-(intOf i).toNat);case atStart=>exact⟨0,0,Be _,rfl,rfl,by simp⟩
 case round=>
  obtain⟨k,n,hk,rfl,rfl,hz⟩:=hrel;by_cases d:k<l.length
  ·obtain⟨b,o,rfl,hX,hc⟩:=hu.resolve_left (λh=>by rw[h] at d; simp at d);have d0:(w.drewN n).cell? ⟨b,o+k,none⟩=some (zA l[k]):=hc k d;have ad:(k:Int)<(l.length:Int):=(by omega);by_cases h0:l[k]=0
   ·have aa:∀z∈l.take (k+1),z=0:=by
     rw[Ci d,h0];intro z ab;rw[Ba]at ab;rcases ab with h|h
     ·exact hz z h
     ·simpa using h
    have g:=Aa aa;clear aa hc;rw[h0]at d0;go_wp2_with fail;go_roundw
    case rel=>exact⟨k+1,_,by omega,by go_num,rfl,g.o⟩
    case measure=>simp[intOf]; omega
   ·have f:=Aa (WM d hz h0);have af:(l[k]==0)=false:=(by simpa using h0);clear hc;go_wp2_with fail;go_ret;exact⟨by rw[f.o]; rfl,below_drewN (Ag _ _) _⟩
  ·have aa:l.take k=l:=BH (by omega);rw[aa]at hz;have f:=Aa (WN hz);go_wp2_with fail;go_ret;exact⟨by rw[f.o]; rfl,below_drewN (Ag _ _) _⟩
def LS (row:List ByteArray) (a b:Tm) (aa:Option Addr) (ca:Nat) (ab:Option Addr) (cb:Nat) (r:Nat) (w w':World):Prop:=
 w'.cell? (zD w.heap.size 0)=some (.string a.name)/\w'.cell? (zD w.heap.size 1)=some (.slice aa a.args.length ca)/\w'.cell? (zD (w.heap.size+1) 0)=some (.string b.name)/\w'.cell? (zD (w.heap.size+1) 1)=some (.slice ab b.args.length cb)/\
 AO w' r (DZ 0 row)/\Below w.heap.size w w'
theorem LS.later {a:Tm} {aa ab:Option Addr} {ca cb:Nat} (h:LS row a b aa ca ab cb r w w1) (hb:Below w1.heap.size w1 w2):LS row a b aa ca ab cb r w w2:=by
 obtain⟨h1,h2,h3,c,d,h6⟩:=h;exact⟨(hb.cell (p:=(zD w.heap.size 0)) (DR h1)).trans h1,(hb.cell (p:=(zD w.heap.size 1)) (DR h2)).trans h2,(hb.cell (p:=(zD (w.heap.size+1) 0)) (DR h3)).trans h3,(hb.cell (p:=(zD (w.heap.size+1) 1)) (DR c)).trans c,d.below hb d.lt,h6.trans (hb.mono h6.size)⟩
theorem Cd (h:AO w r (DZ 0 row)) (n:ByteArray):(Instr.lookup 97 (.map (some r)) (.string n) false).run prog w=.ok (zA (AU n row)) w:=by
 rw[OG (P:=prog) underlying97 underlying9 (zeroValue3 w) h n,qB]
theorem qL (row:List ByteArray) (a b:Tm):Gp [Do (AU a.name row) (AU b.name row),Ea a.name b.name,Do a.args.length b.args.length]=Jl row a b:=by
 unfold Gp Jl;by_cases h1:Do (AU a.name row) (AU b.name row)=0
 ·by_cases h2:Ea a.name b.name=0
  ·by_cases h3:Do a.args.length b.args.length=0
   ·simp[h1,h2,h3]
   ·simp[h1,h2,h3]
  ·simp[h1,h2]
 ·simp[h1]
theorem qM (row:List ByteArray) (S:List Tm) (a b:Tm) (r:Nat) (m n:Value) (w:World) (X:Nat->Prop) (l:AO w r (DZ 0 row)) (ha:IV w X S m a) (hb:IV w X S n b):
  Calls prog 109 #[.map (some r),m,n] w λe w'=>e=.returned (zA (Jl row a b))/\Below w.heap.size w w':=by
 obtain⟨_,aa,ca,rfl,q⟩:=ha;obtain⟨_,ab,cb,rfl,s⟩:=hb;have ai:=q.1;have aj:=s.1;clear q s;have hz:∀w',(zeroValue 3).run prog w'=.ok (zA 0) w':=λw'=>zeroValue3 w';have u:Hid (LS row a b aa ca ab cb r w (((w.alloc (zh #[.string a.name,.slice aa a.args.length ca,zA (Am a S),zA (Ab [a])] 104)).alloc (zh #[.string b.name,.slice ab b.args.length cb,zA (Am b S),zA (Ab [b])] 104)).drew)):=by
  have k1:=(Ac.new w #[.string a.name,.slice aa a.args.length ca,zA (Am a S),zA (Ab [a])] 104).alloc (zh #[.string b.name,.slice ab b.args.length cb,zA (Am b S),zA (Ab [b])] 104);have k2:=Ac.new (w.alloc (zh #[.string a.name,.slice aa a.args.length ca,zA (Am a S),zA (Ab [a])] 104)) #[.string b.name,.slice ab b.args.length cb,zA (Am b S),zA (Ab [b])] 104;have t:=((Ag w.heap.size w).alloc (Al _) (.cells #[.string a.name,.slice aa a.args.length ca,zA (Am a S),zA (Ab [a])] 104)).alloc (by simp) (.cells #[.string b.name,.slice ab b.args.length cb,zA (Am b S),zA (Ab [b])] 104);have v:(w.alloc (zh #[.string a.name,.slice aa a.args.length ca,zA (Am a S),zA (Ab [a])] 104)).heap.size=w.heap.size+1:=by simp
  rw[v]at k2;have x:=l.below t l.lt;generalize (w.alloc (zh #[.string a.name,.slice aa a.args.length ca,zA (Am a S),zA (Ab [a])] 104)).alloc (zh #[.string b.name,.slice ab b.args.length cb,zA (Am b S),zA (Ab [b])] 104)=w2 at *;exact⟨k1.cell 0,k1.cell 1,k2.cell 0,k2.cell 1,x,below_drewN t 1⟩
 clear l;go_enter func109,ntmps109;go_wp2_with fail;refine D9 (S:=LS row a b aa ca ab cb r w) (by kernel_rfl) u.o λhH=>?_;refine tkz 0 ?_ (hy:=by intro w' d;obtain⟨k1,k2,k3,f,c,g⟩:=d;have h:=Cd c a.name;have lb:=Cd c b.name;go_simp<;>with_reducible rfl);refine tkz 1 ?_ (hy:=by intro w' d;obtain⟨k1,k2,k3,f,c,g⟩:=d;have h:=Cd c a.name;have lb:=Cd c b.name;go_simp<;>with_reducible rfl);refine tkz 2 ?_ (hy:=by intro w' d;obtain⟨k1,k2,k3,f,c,g⟩:=d;have h:=Cd c a.name;have lb:=Cd c b.name;go_simp<;>with_reducible rfl);refine tkz 3 ?_ (hy:=by intro w' d;obtain⟨k1,k2,k3,f,c,g⟩:=d;have h:=Cd c a.name;have lb:=Cd c b.name;go_simp<;>with_reducible rfl);refine tkz 4 ?_ (hy:=by intro w' d;obtain⟨k1,k2,k3,f,c,g⟩:=d;have h:=Cd c a.name;have lb:=Cd c b.name;go_simp<;>with_reducible rfl);refine tkz 5 ?_ (hy:=by intro w' d;obtain⟨k1,k2,k3,f,c,g⟩:=d;have h:=Cd c a.name;have lb:=Cd c b.name;go_simp<;>with_reducible rfl);refine tkz 6 ?_ (hy:=by intro w' d;obtain⟨k1,k2,k3,f,c,g⟩:=d;have h:=Cd c a.name;have lb:=Cd c b.name;go_simp<;>with_reducible rfl);refine tkz 7 ?_ (hy:=by intro w' d;obtain⟨k1,k2,k3,f,c,g⟩:=d;have h:=Cd c a.name;have lb:=Cd c b.name;go_simp<;>with_reducible rfl);refine tkz 9 ?_ (hy:=by intro w' d;obtain⟨k1,k2,k3,f,c,g⟩:=d;have h:=Cd c a.name;have lb:=Cd c b.name;go_simp<;>with_reducible rfl);refine tkz 10 ?_ (hy:=by intro w' d;obtain⟨k1,k2,k3,f,c,g⟩:=d;have h:=Cd c a.name;have lb:=Cd c b.name;go_simp<;>with_reducible rfl);refine tkz 11 ?_ (hy:=by intro w' d;obtain⟨k1,k2,k3,f,c,g⟩:=d;have h:=Cd c a.name;have lb:=Cd c b.name;go_simp<;>with_reducible rfl);refine tkz 12 ?_ (hy:=by intro w' d;obtain⟨k1,k2,k3,f,c,g⟩:=d;have h:=Cd c a.name;have lb:=Cd c b.name;go_simp<;>with_reducible rfl);refine tkz 14 ?_ (hy:=by intro w' d;obtain⟨k1,k2,k3,f,c,g⟩:=d;have h:=Cd c a.name;have lb:=Cd c b.name;go_simp<;>with_reducible rfl);refine tkz 15 ?_ (hy:=by intro w' d;obtain⟨k1,k2,k3,f,c,g⟩:=d;have h:=Cd c a.name;have lb:=Cd c b.name;go_simp<;>with_reducible rfl);refine tkz 16 ?_ (hy:=by intro w' d;obtain⟨k1,k2,k3,f,c,g⟩:=d;have h:=Cd c a.name;have lb:=Cd c b.name;go_simp<;>with_reducible rfl);refine tkz 17 ?_ (hy:=by intro w' d;obtain⟨k1,k2,k3,f,c,g⟩:=d;have h:=Cd c a.name;have lb:=Cd c b.name;go_simp<;>with_reducible rfl);refine tkz 18 ?_ (hy:=by intro w' d;obtain⟨k1,k2,k3,f,c,g⟩:=d;have h:=Cd c a.name;have lb:=Cd c b.name;go_simp<;>with_reducible rfl);refine tkz 19 ?_ (hy:=by intro w' d;obtain⟨k1,k2,k3,f,c,g⟩:=d;have h:=Cd c a.name;have lb:=Cd c b.name;go_simp<;>with_reducible rfl);refine rdq 8 rfl λK j=>?_;go_simp;go_at_call 126;refine(WL _ _ _).mono ?_;rintro e w' ⟨rfl,rfl⟩;go_simp;refine j.o _ _ (by exact hH) λhH=>?_;clear j K;(try simp only[Act.put,sq]);refine rdq 13 rfl λK j=>?_;go_simp;go_at_call 127;refine(YH _ _ _).mono ?_;rintro e w' ⟨rfl,rfl⟩;go_simp;refine j.o _ _ (by exact hH) λhH=>?_;clear j K;(try simp only[Act.put,sq]);refine rdq 20 rfl λK j=>?_;go_simp;go_at_call 126;refine(WL _ _ _).mono ?_;rintro e w' ⟨rfl,rfl⟩;go_simp;refine j.o _ _ (by exact hH) λhH=>?_;clear j K;(try simp only[Act.put,sq]);refine rdq 21 rfl λK j=>?_;have y:Hid (LV (λz=>zA z) (((w.alloc (zh #[.string a.name,.slice aa a.args.length ca,zA (Am a S),zA (Ab [a])] 104)).alloc (zh #[.string b.name,.slice ab b.args.length cb,zA (Am b S),zA (Ab [b])] 104)).alloc (zh #[zA (Do (AU a.name row) (AU b.name row)),zA (Ea a.name b.name),zA (Do a.args.length b.args.length)] 3)).drew (λ_=>True) (.slice (some (zD (w.heap.size+1+1) 0)) 3 3) [Do (AU a.name row) (AU b.name row),Ea a.name b.name,Do a.args.length b.args.length]):=by
  have k:=Ac.new ((w.alloc (zh #[.string a.name,.slice aa a.args.length ca,zA (Am a S),zA (Ab [a])] 104)).alloc (zh #[.string b.name,.slice ab b.args.length cb,zA (Am b S),zA (Ab [b])] 104)) #[zA (Do (AU a.name row) (AU b.name row)),zA (Ea a.name b.name),zA (Do a.args.length b.args.length)] 3;refine⟨_,_,rfl,⟨by simp,Al _⟩,Ad ⟨_,0,rfl,trivial,λi hi=>?_⟩⟩;have e:((w.alloc (zh #[.string a.name,.slice aa a.args.length ca,zA (Am a S),zA (Ab [a])] 104)).alloc (zh #[.string b.name,.slice ab b.args.length cb,zA (Am b S),zA (Ab [b])] 104)).heap.size=w.heap.size+1+1:=by simp
  rw[e]at k;match i,hi with
  |0,_=>exact k.cell 0
  |1,_=>exact k.cell 1
  |2,_=>exact k.cell 2
 go_simp;refine j.o _ _ (by exact hH.later ⟨rfl,rfl,rfl,by simp,λk hk=>Ay _ _ _ (by simpa using hk)⟩) λhH=>?_;clear j K;(try simp only[Act.put,sq]);refine rdq 22 rfl λK j=>?_;go_simp;go_at_call 125;refine(qK _ _ _ _ y.o).mono ?_;rintro e w' ⟨rfl,hb⟩;rw[qL];go_simp;refine j.o _ _ (by exact hH.later hb) λhH=>?_;clear j K;(try simp only[Act.put,sq]);refine tkz 23 ?_;refine dnq ?_;go_wp2_with fail;go_ret;exact⟨rfl,hH.2.2.2.2.2⟩
theorem WP (S:List Tm) (t:Tm) (v:Value) (w:World) (X:Nat->Prop) (hv:IV w X S v t):
  Calls prog 107 #[v] w λe w'=>e=.returned (.bool (Aj t.name))/\Below w.heap.size w w':=by
 obtain⟨_,a,c,rfl,hs⟩:=hv;go_enter func107,ntmps107;go_wp2_with (go_at_call 65; refine(BR _ _).mono ?_; rintro e w' ⟨rfl,rfl⟩);go_ret;exact⟨rfl,(Ag _ _).alloc (Al _) _⟩
theorem WQ:∀ {a b:List Tm} {k:Nat} (ha:k<a.length) (hb:k<b.length),(∀j (h1:j<k),a[j]=b[j])->a[k]≠b[k]->AV a b=some (a[k],b[k])
 |t::a,u::b,0,_,_,_,h=>by
  have h':t≠u:=h;rw[AV,Ah λe=>h' (Cr.1 e)];rfl
 |t::a,u::b,k+1,ha,hb,aa,h=>by
  have h0:t=u:=aa 0 (by omega);subst h0;rw[AV,Ao (Cr.2 rfl),WQ (k:=k) (by simpa using ha) (by simpa using hb) (λj hj=>aa (j+1) (by omega)) (by simpa using h)];rfl
theorem WR:∀ {a b:List Tm},a.length=b.length->(∀j (h1:j<a.length) (h2:j<b.length),a[j]=b[j])->AV a b=none
 | [],_,_,_=>by simp[AV]
 |t::a,[],h,_=>by simp at h
 |t::a,u::b,h,aa=>by
  have h0:t=u:=aa 0 (by simp) (by simp);subst h0;rw[AV,Ao (Cr.2 rfl)];exact WR (by simpa using h) λj h1 h2=>by
   have h3:=aa (j+1) (by simpa using h1) (by simpa using h2);simp only[FX] at h3;exact h3
theorem NR {b o:Nat} (h:w.cell? (zD b o)=some v) (a:Obj):(w.alloc a).cell? (zD b o)=some v:=by
 rw[<-h];exact((Ag w.heap.size w).alloc (Al _) a).cell (p:=(zD b o)) (DR h)
theorem WT {a:World} (c:Below w.heap.size w a) (hq:Ak (λb=>b=w.heap.size+2∨b=w.heap.size+3) a w'):Below w.heap.size w w'/\∀v x,IV a (λb=>X b/\b<w.heap.size) S v x->IV w' X S v x:=by
 refine⟨c.trans (hq.below c.size λb hb=>by rcases hb with h|h<;>omega),λv x hx=>?_⟩;have hz:=c.size;exact(hx.kept λb hb=>hq.block b (by have:=hb.2; omega) (λh=>by have:=hb.2; rcases h with h|h<;>omega)).mono λb hb _=>hb.1
theorem qN {a y:Tm} {c d:Value} {f:World} (h:Below w.heap.size w f) (hq:Ak (λb=>b=w.heap.size+2∨b=w.heap.size+3) f w') (hu:AV a.args b.args=some (x,y)) (he:e=.returned (.tuple #[c,d,.bool true])) (hx:IV f (λb=>X b/\b<w.heap.size) S c x) (hy:IV f (λb=>X b/\b<w.heap.size) S d y):
  Below w.heap.size w w'/\((∃x y c d,AV a.args b.args=some (x,y)/\e=.returned (.tuple #[c,d,.bool true])/\IV w' X S c x/\IV w' X S d y)∨
   (AV a.args b.args=none/\e=.returned (.tuple #[.agg #[.string ⟨#[]⟩,zB,zA 0,zA 0],.agg #[.string ⟨#[]⟩,zB,zA 0,zA 0],.bool false]))):=
 have g:=WT (S:=S) (X:=X) h hq
 ⟨g.1,Ae ⟨x,y,c,d,hu,he,g.2 _ _ hx,g.2 _ _ hy⟩⟩
theorem qO {a:Tm} {c:World} (g:Below w.heap.size w c) (hq:Ak (λb=>b=w.heap.size+2∨b=w.heap.size+3) c w') (hu:AV a.args b.args=none) (he:e=.returned (.tuple #[.agg #[.string ⟨#[]⟩,zB,zA 0,zA 0],.agg #[.string ⟨#[]⟩,zB,zA 0,zA 0],.bool false])):
  Below w.heap.size w w'/\((∃x y d f,AV a.args b.args=some (x,y)/\e=.returned (.tuple #[d,f,.bool true])/\IV w' X S d x/\IV w' X S f y)∨
   (AV a.args b.args=none/\e=.returned (.tuple #[.agg #[.string ⟨#[]⟩,zB,zA 0,zA 0],.agg #[.string ⟨#[]⟩,zB,zA 0,zA 0],.bool false]))):=
 have h:=WT (S:=S) (X:=X) g hq
 ⟨h.1,Ad ⟨hu,he⟩⟩
def WU (S:List Tm) (a b:Tm) (aa:Option Addr) (ca:Nat) (ab:Option Addr) (cb:Nat) (w:World) (i:Value) (wr:World):Prop:=
 ∃k:Nat,k<=a.args.length/\i=zA k/\(∀j (h1:j<k) (h2:j<a.args.length) (h3:j<b.args.length),a.args[j]=b.args[j])/\Ac wr w.heap.size #[.string a.name,.slice aa a.args.length ca,zA (Am a S),zA (Ab [a])] 104/\
  Ac wr (w.heap.size+1) #[.string b.name,.slice ab b.args.length cb,zA (Am b S),zA (Ab [b])] 104/\Ac wr (w.heap.size+2) #[.string ⟨#[]⟩,zB,zA 0,zA 0] 104/\Ac wr (w.heap.size+3) #[.string ⟨#[]⟩,zB,zA 0,zA 0] 104/\Below w.heap.size w wr
theorem qP (S:List Tm) (a b:Tm) (H:a.args.length=b.args.length) (I J:Value) (w:World) (X:Nat->Prop) (ha:IV w X S I a) (hb:IV w X S J b):
  Calls prog 111 #[I,J] w λe w'=>Below w.heap.size w w'/\((∃x y L M,AV a.args b.args=some (x,y)/\e=.returned (.tuple #[L,M,.bool true])/\IV w' X S L x/\IV w' X S M y)∨
   (AV a.args b.args=none/\e=.returned (.tuple #[.agg #[.string ⟨#[]⟩,zB,zA 0,zA 0],.agg #[.string ⟨#[]⟩,zB,zA 0,zA 0],.bool false]))):=by
 obtain⟨_,aa,ca,rfl,C⟩:=ha;obtain⟨_,ab,cb,rfl,D⟩:=hb;have ar:=Aa (C.mono (Y:=λb=>X b/\b<w.heap.size) λb h1 h2=>⟨h1,h2⟩);have au:=Aa (D.mono (Y:=λb=>X b/\b<w.heap.size) λb h1 h2=>⟨h1,h2⟩);have a8:=C.1;have aA:=D.1;have N:=Aa H;clear C D H;go_enter func111,ntmps111;go_wp2_with fail;have O:Hid (WU S a b aa ca ab cb w (zA 0) ((((w.alloc (zh #[.string a.name,.slice aa a.args.length ca,zA (Am a S),zA (Ab [a])] 104)).alloc (zh #[.string b.name,.slice ab b.args.length cb,zA (Am b S),zA (Ab [b])] 104)).alloc (zh #[.string ⟨#[]⟩,zB,zA 0,zA 0] 104)).alloc (zh #[.string ⟨#[]⟩,zB,zA 0,zA 0] 104))):=by
  have k1:=Ac.new w #[.string a.name,.slice aa a.args.length ca,zA (Am a S),zA (Ab [a])] 104;have E:=(Ag w.heap.size w).alloc (Al _) (.cells #[.string a.name,.slice aa a.args.length ca,zA (Am a S),zA (Ab [a])] 104);have P:(w.alloc (zh #[.string a.name,.slice aa a.args.length ca,zA (Am a S),zA (Ab [a])] 104)).heap.size=w.heap.size+1:=by simp
  generalize w.alloc (zh #[.string a.name,.slice aa a.args.length ca,zA (Am a S),zA (Ab [a])] 104)=w1 at *;have k2:=Ac.new w1 #[.string b.name,.slice ab b.args.length cb,zA (Am b S),zA (Ab [b])] 104;have B:=E.alloc E.size (.cells #[.string b.name,.slice ab b.args.length cb,zA (Am b S),zA (Ab [b])] 104);have av:=k1.alloc (zh #[.string b.name,.slice ab b.args.length cb,zA (Am b S),zA (Ab [b])] 104);have R:(w1.alloc (zh #[.string b.name,.slice ab b.args.length cb,zA (Am b S),zA (Ab [b])] 104)).heap.size=w.heap.size+2:=by simp[P]
  generalize w1.alloc (zh #[.string b.name,.slice ab b.args.length cb,zA (Am b S),zA (Ab [b])] 104)=w2 at *;have k3:=Ac.new w2 #[.string ⟨#[]⟩,zB,zA 0,zA 0] 104;have T:=B.alloc B.size (.cells #[.string ⟨#[]⟩,zB,zA 0,zA 0] 104);have U:=k2.alloc (zh #[.string ⟨#[]⟩,zB,zA 0,zA 0] 104);have al:=av.alloc (zh #[.string ⟨#[]⟩,zB,zA 0,zA 0] 104);have e3:(w2.alloc (zh #[.string ⟨#[]⟩,zB,zA 0,zA 0] 104)).heap.size=w.heap.size+3:=by simp[R]
  generalize w2.alloc (zh #[.string ⟨#[]⟩,zB,zA 0,zA 0] 104)=w3 at *;have V:=Ac.new w3 #[.string ⟨#[]⟩,zB,zA 0,zA 0] 104;rw[P]at U;rw[R]at k3;rw[e3]at V;exact⟨0,Be _,rfl,λj h=>by omega,al.alloc _,U.alloc _,k3.alloc _,V,T.alloc T.size _⟩
 generalize (((w.alloc (zh #[.string a.name,.slice aa a.args.length ca,zA (Am a S),zA (Ab [a])] 104)).alloc (zh #[.string b.name,.slice ab b.args.length cb,zA (Am b S),zA (Ab [b])] 104)).alloc (zh #[.string ⟨#[]⟩,zB,zA 0,zA 0] 104)).alloc (zh #[.string ⟨#[]⟩,zB,zA 0,zA 0] 104)=w4 at *;go_loopw [13] (λi wr=>WU S a b aa ca ab cb w i wr) (λi wr=>a.args.length-(intOf i).toNat);case atStart=>exact O.o
 case round=>
  clear O;obtain⟨k,hk,rfl,F,h1,h2,h3,c,m⟩:=hrel;have aw:=Aa h1;have ax:=Aa h2;have W:=Aa h3;have Z:=Aa c;have d:=Aa m;have G:=Aa F;have z1:wr.heap.size>=w.heap.size+4:=by have:=c.lt; omega
  by_cases hlt:k<a.args.length
  ·have ai:k<b.args.length:=by have:=N.o; omega
   have ay:(k:Int)<(a.args.length:Int):=(by omega);have az:(k:Int)<(b.args.length:Int):=(by omega);obtain⟨E,o1,a1,c1,rfl,d10,d11,d12,d13,hx⟩:=ar.o.get m (λ_ _ h=>h) k hlt;obtain⟨B,o2,a2,c2,rfl,d20,d21,d22,d23,hy⟩:=au.o.get m (λ_ _ h=>h) k ai;have q:∀o,(wr.alloc o).cell? (zD (w.heap.size+1) 1)=some (.slice (some (zD B o2)) b.args.length cb):=λo=>(h2.alloc o).cell 1;have f20:=λo=>NR d20 o;have f21:=λo=>NR d21 o;have f22:=λo=>NR d22 o;have f23:=λo=>NR d23 o;have HX:=Aa hx;have HY:=Aa hy;clear h1 h2 h3 c m F hx hy d20 d21 d22 d23;by_cases he:a.args[k]=b.args[k]
   ·have hne:((Am a.args[k] S:Int) !=(Am b.args[k] S:Int))=false:=by rw[he]; simp
    have HE:=Aa he;clear he;go_wp2_with fail;go_roundw
    case rel=>
     refine⟨k+1,by omega,by go_num,λj h1 h2 h3=>?_,(aw.o.alloc _).alloc _,(ax.o.alloc _).alloc _,(W.o.alloc _).alloc _,(Z.o.alloc _).alloc _,(d.o.alloc d.o.size _).alloc (by have:=d.o.size; simp; omega) _⟩;by_cases hj:j=k
     ·subst hj; exact HE.o
     ·exact G.o j (by omega) h2 h3
    case measure=>simp[intOf]; omega
   ·have hne:((Am a.args[k] S:Int) !=(Am b.args[k] S:Int))=true:=(by rw[bne_iff_ne];intro e;exact he (Mr HX.o.1 HY.o.1 (by omega)));have HU:=Aa (WQ hlt ai (λj hj=>G.o j hj (by omega) (by omega)) he);clear he;go_wp2_with fail;generalize aB:a.args[k]=x at *;generalize aC:b.args[k]=y at *;have n:=(Ac.new wr #[.string x.name,.slice a1 x.args.length c1,zA (Am x S),zA (Ab [x])] 104).alloc (zh #[.string y.name,.slice a2 y.args.length c2,zA (Am y S),zA (Ab [y])] 104);have f:=Ac.new (wr.alloc (zh #[.string x.name,.slice a1 x.args.length c1,zA (Am x S),zA (Ab [x])] 104)) #[.string y.name,.slice a2 y.args.length c2,zA (Am y S),zA (Ab [y])] 104;have e9:(wr.alloc (zh #[.string x.name,.slice a1 x.args.length c1,zA (Am x S),zA (Ab [x])] 104)).heap.size=wr.heap.size+1:=(by simp);rw[e9]at f;have g:=(W.o.alloc (zh #[.string x.name,.slice a1 x.args.length c1,zA (Am x S),zA (Ab [x])] 104)).alloc (zh #[.string y.name,.slice a2 y.args.length c2,zA (Am y S),zA (Ab [y])] 104);have l:=(Z.o.alloc (zh #[.string x.name,.slice a1 x.args.length c1,zA (Am x S),zA (Ab [x])] 104)).alloc (zh #[.string y.name,.slice a2 y.args.length c2,zA (Am y S),zA (Ab [y])] 104);have BL:=Aa ((d.o.alloc d.o.size (.cells #[.string x.name,.slice a1 x.args.length c1,zA (Am x S),zA (Ab [x])] 104)).alloc (by have:=d.o.size; simp; omega) (.cells #[.string y.name,.slice a2 y.args.length c2,zA (Am y S),zA (Ab [y])] 104));have a6:=Aa ((HX.o.alloc (zh #[.string x.name,.slice a1 x.args.length c1,zA (Am x S),zA (Ab [x])] 104)).alloc (zh #[.string y.name,.slice a2 y.args.length c2,zA (Am y S),zA (Ab [y])] 104));have a7:=Aa ((HY.o.alloc (zh #[.string x.name,.slice a1 x.args.length c1,zA (Am x S),zA (Ab [x])] 104)).alloc (zh #[.string y.name,.slice a2 y.args.length c2,zA (Am y S),zA (Ab [y])] 104));generalize ((wr.alloc (zh #[.string x.name,.slice a1 x.args.length c1,zA (Am x S),zA (Ab [x])] 104)).alloc (zh #[.string y.name,.slice a2 y.args.length c2,zA (Am y S),zA (Ab [y])] 104))=w5 at *;have p0:=n.cell 0;have p1:=n.cell 1;have p2:=n.cell 2;have p3:=n.cell 3;have q0:=f.cell 0;have q1:=f.cell 1;have q2:=f.cell 2;have q3:=f.cell 3;have r:=g.cell 0;have s:=g.cell 1;have t:=g.cell 2;have u:=g.cell 3;have rf:=g.frozen;have z:=l.cell 0;have s1:=l.cell 1;have s2:=l.cell 2;have A:=l.cell 3;have sf:=l.frozen;simp only[D7,Ei,Et] at p0 p1 p2 p3 q0 q1 q2 q3 r s t u z s1 s2 A;clear n f g l f20 f21 f22 f23 q;go_region
    all_goals
     go_wp2_with fail;refine Aq (v:=.tuple #[.agg #[.string x.name,.slice a1 x.args.length c1,zA (Am x S),zA (Ab [x])],.agg #[.string y.name,.slice a2 y.args.length c2,zA (Am y S),zA (Ab [y])],.bool true]) (by simp[results,results111,go_sem,Az,Aw,r,s,t,u,z,s1,s2,A]) rfl ?_;refine qN BL.o ?_ HU.o rfl a6.o a7.o;refine Ak.drew ?_;iterate 8 refine Ak.set ?_ (by simp) _ _
     exact Ak.refl _ _
  ·have HN:Hid (AV a.args b.args=none):=WR N.o λj h1 h2=>G.o j (by omega) h1 h2;have r:=h3.cell 0;have s:=h3.cell 1;have t:=h3.cell 2;have u:=h3.cell 3;have rf:=h3.frozen;have z:=c.cell 0;have s1:=c.cell 1;have s2:=c.cell 2;have A:=c.cell 3;have sf:=c.frozen;simp only[D7,Ei,Et] at r s t u z s1 s2 A;clear h1 h2 h3 c m F;go_wp2_with fail;refine Aq (v:=.tuple #[.agg #[.string ⟨#[]⟩,zB,zA 0,zA 0],.agg #[.string ⟨#[]⟩,zB,zA 0,zA 0],.bool false]) (by simp[results,results111,go_sem,Az,Aw,r,s,t,u,z,s1,s2,A]) rfl ?_;refine qO d.o ?_ HN.o rfl;iterate 8 refine Ak.set ?_ (by simp) _ _
   exact Ak.refl _ _
