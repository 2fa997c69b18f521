import Derived.Test.YtlkeafenklamjaaGreatDoorW64
namespace Go.Proofs.YtlkeafenklamjaaGreatDoor
set_option linter.all false
set_option maxRecDepth 20000
set_option maxHeartbeats 8000000
open Go.RowKit
theorem Jo {s:ByteArray} {a r:List Tm} (h:Ah (⟨s,a⟩::r)=0):Be s=true:=by
 rw[Ah]at h
 split at h
 ·assumption
 ·cases h
theorem Kq {l:List Bd} (ha:Ct l) {d:Bd} (hd:d∈l):Ar l d.nm=some d.t:=by
 induction l with
 |nil=>cases hd
 |cons a r ih=>
  obtain⟨h1,h2⟩:=I6.1 ha
  rcases BE.1 hd with rfl|hd
  ·simp[Ar]
  ·rw[Ar,An (h1 d hd)]
   exact ih h2 hd
theorem W6 (a b:List Bd) (n:ByteArray):Ar (a++b) n=(Ar a n).or (Ar b n):=by
 induction a with
 |nil=>simp[Ar]
 |cons d r ih=>
  rw[Cf,Ar,Ar]
  split
  ·rfl
  ·exact ih
theorem Fz (l:List Bd) (n:ByteArray):Ag l ⟨n,[]⟩=(Ar l n).getD ⟨n,[]⟩:=by
 cases h:Ar l n with
 |none=>rw[Fv (Ae h)]; simp[Am]
 |some t=>rw[Ik h]; rfl
theorem PW {ls:List Bd} {d:Bd} (h:d∈ls):∃t,Ar ls d.nm=some t:=by
 induction ls with
 |nil=>cases h
 |cons a r ih=>
  rw[Ar]
  split
  ·exact⟨_,rfl⟩
  ·rename_i hne
   rcases BE.1 h with rfl|h
   ·exact absurd rfl hne
   ·exact ih h
theorem Kr:∀(ks:List Tm) (acc:List ByteArray) (n:ByteArray),n∈At acc ks->n∈acc∨∃k∈ks,k.name=n/\Ak n=true
 | [],acc,n,h=>Ad (by simpa [At] using h)
 |k::r,acc,n,h=>by
  have e:At acc (k::r)=At (Bk acc k.name) r:=rfl
  rw[e]at h
  rcases Kr r _ n h with h1|⟨k',h1,h2⟩
  ·cases hv:Ak k.name with
   |false=>rw[Gj hv] at h1; exact Ad h1
   |true=>
    cases hi:AF k.name acc with
    |true=>rw[Im hv hi] at h1; exact Ad h1
    |false=>
     rw[Il hv hi]at h1
     rcases Bg.1 h1 with h1|h1
     ·exact Ad h1
     ·have e2:n=k.name:=by simpa using h1
      exact Ae ⟨k,by simp,e2.symm,by rw[e2]; exact hv⟩
  ·exact Ae ⟨k',by simp[h1],h2⟩
theorem Jp:∀(ks:List Tm) (acc:List ByteArray),(∀n∈acc,n∈At acc ks)/\∀k∈ks,Ak k.name=true->k.name∈At acc ks
 | [],acc=>⟨λn h=>by simpa [At] using h,λk h=>by cases h⟩
 |k::r,acc=>by
  have e:At acc (k::r)=At (Bk acc k.name) r:=rfl
  rw[e]
  obtain⟨h1,h2⟩:=Jp r (Bk acc k.name)
  have aa:∀n∈acc,n∈Bk acc k.name:=λn hn=>by
   cases hv:Ak k.name with
   |false=>rw[Gj hv]; exact hn
   |true=>
    cases hi:AF k.name acc with
    |true=>rw[Im hv hi]; exact hn
    |false=>rw[Il hv hi]; simp[hn]
  refine⟨λn hn=>h1 n (aa n hn),λk' hk' hv'=>?_⟩
  rcases BE.1 hk' with rfl|hk'
  ·refine h1 _ ?_
   cases hi:AF k'.name acc with
   |true=>
    rw[Im hv' hi]
    unfold AF at hi
    obtain⟨y,hy,e2⟩:=D7.1 hi
    have e3:y=k'.name:=Ej (by simpa using e2)
    rw[<-e3]; exact hy
   |false=>rw[Il hv' hi]; simp
  ·exact h2 k' hk' hv'
end Go.Proofs.YtlkeafenklamjaaGreatDoor
