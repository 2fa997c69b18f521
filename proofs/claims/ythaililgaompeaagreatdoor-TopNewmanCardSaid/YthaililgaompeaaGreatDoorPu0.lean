import Derived.Test.YthaililgaompeaaGreatDoorW64
namespace Go.Proofs.YthaililgaompeaaGreatDoor
set_option linter.all false
set_option maxRecDepth 20000
set_option maxHeartbeats 8000000
open Go.RowKit
theorem Lx {s:ByteArray} {a r:List Tm} (h:Af (⟨s,a⟩::r)=0):AF s=true:=by
 rw[Af]at h;split at h
 ·assumption
 ·cases h
theorem MX {l:List Bd} (ha:Ey l) {d:Bd} (hd:d∈l):As l d.nm=some d.t:=by
 induction l with
 |nil=>cases hd
 |cons a r b=>
  obtain⟨h1,h2⟩:=NZ.1 ha;rcases Bh.1 hd with rfl|hd
  ·simp[As]
  ·rw[As,Ah (h1 d hd)];exact b h2 hd
theorem eT (a b:List Bd) (n:ByteArray):As (a++b) n=(As a n).or (As b n):=by
 induction a with
 |nil=>simp[As]
 |cons d r c=>
  rw[Bj,As,As];split
  ·rfl
  ·exact c
theorem Gd (l:List Bd) (n:ByteArray):Ai l ⟨n,[]⟩=(As l n).getD ⟨n,[]⟩:=by
 cases h:As l n with
 |none=>rw[Iu (Ad h)]; simp[At]
 |some t=>rw[JK h]; rfl
theorem Tu {ls:List Bd} {d:Bd} (h:d∈ls):∃t,As ls d.nm=some t:=by
 induction ls with
 |nil=>cases h
 |cons a r b=>
  rw[As];split
  ·exact⟨_,rfl⟩
  ·rename_i c;rcases Bh.1 h with rfl|h
   ·exact absurd rfl c
   ·exact b h
theorem J6:∀(ks:List Tm) (acc:List ByteArray) (n:ByteArray),n∈AN acc ks->n∈acc∨∃k∈ks,k.name=n/\Aj n=true
 | [],acc,n,h=>Ae (by simpa [AN] using h)
 |k::r,acc,n,h=>by
  have e:AN acc (k::r)=AN (Cf acc k.name) r:=rfl;rw[e]at h;rcases J6 r _ n h with h1|⟨k',h1,h2⟩
  ·cases hv:Aj k.name with
   |false=>rw[Mw hv] at h1; exact Ae h1
   |true=>
    cases hi:Bb k.name acc with
    |true=>rw[KW hv hi] at h1; exact Ae h1
    |false=>
     rw[KV hv hi]at h1;rcases Ba.1 h1 with h1|h1
     ·exact Ae h1
     ·have a:n=k.name:=(by simpa using h1);exact Ad ⟨k,by simp,a.symm,by rw[a]; exact hv⟩
  ·exact Ad ⟨k',by simp[h1],h2⟩
theorem MY:∀(ks:List Tm) (acc:List ByteArray),(∀n∈acc,n∈AN acc ks)/\∀k∈ks,Aj k.name=true->k.name∈AN acc ks
 | [],acc=>⟨λn h=>by simpa [AN] using h,λk h=>by cases h⟩
 |k::r,acc=>by
  have e:AN acc (k::r)=AN (Cf acc k.name) r:=rfl;rw[e];obtain⟨h1,h2⟩:=MY r (Cf acc k.name);have aa:∀n∈acc,n∈Cf acc k.name:=λn a=>by
   cases hv:Aj k.name with
   |false=>rw[Mw hv]; exact a
   |true=>
    cases hi:Bb k.name acc with
    |true=>rw[KW hv hi]; exact a
    |false=>rw[KV hv hi]; simp[a]
  refine⟨λn a=>h1 n (aa n a),λk' hk' ab=>?_⟩;rcases Bh.1 hk' with rfl|hk'
  ·refine h1 _ ?_;cases hi:Bb k'.name acc with
   |true=>rw[KW ab hi];unfold Bb at hi;obtain⟨y,hy,b⟩:=D6.1 hi;have c:y=k'.name:=Ew (by simpa using b);rw[<-c]; exact hy
   |false=>rw[KV ab hi]; simp
  ·exact h2 k' hk' ab
