import Derived.Test.YtocebjbjnfammaaGreatSG7
import Derived.Test.YtocebjbjnfammaaGreatSG6
import Derived.Test.YtocebjbjnfammaaGreatSG3
import Derived.Test.YtocebjbjnfammaaGreatSG2
import Derived.Test.YtocebjbjnfammaaGreatSG5
import Derived.Deep.RegionHeld3
import Derived.Deep.RegionLaw
import Derived.Test.YtocebjbjnfammaaGreatSG1
set_option maxRecDepth 4096
set_option maxHeartbeats 16000000
namespace Go.Proofs.YtocebjbjnfammaaGreat
open Go.RowKit
structure DivWay (A B:LR_) (K T:Nat) (I:List Rat→List Rat→Prop):Prop where
 start:I [] (ah_ A)
 step:∀{Q R Q' X R':List Rat} {c:Rat},I Q R→ah_ R=R→B.length≤R.length→c=R.getD (R.length - 1) 0 / B.getD (B.length - 1) 0→peq Q' (padd Q (shot (R.length - B.length) c))→peq X (pmul (shot (R.length - B.length) c) B)→peq R' (psub R X)→ah_ R'=R'→I Q' R'
 room:∀{Q R:List Rat},I Q R→(∀q∈R,qlen q≤T)∧∀q∈Q,qlen q≤T
 top:∀{Q R:List Rat},I Q R→ah_ R=R→B.length≤R.length→qlen (R.getD (R.length - 1) 0 / B.getD (B.length - 1) 0)+K+5≤T
structure GcdWay (A B:LR_) (T E:Nat) (J:List Rat→List Rat→Prop):Prop where
 start:J (ah_ A) (ah_ B)
 div:∀{x y:List Rat},J x y→ah_ x=x→ah_ y=y→0 < y.length→∃K I,(∀q∈y,qlen q≤K)∧(∀q∈x,qlen q≤T)∧DivWay x y K T I
 step:∀{x y q r:List Rat},J x y→ah_ x=x→ah_ y=y→0 < y.length→isDiv x y q r→ah_ r=r→J y r
 over:∀{x:List Rat},J x []→ah_ x=x→0 < x.length→qlen (1 / x.getD (x.length - 1) 0)≤T∧(∀q∈x,qlen q≤T)∧(∀q∈ah_ (ag_ (1 / x.getD (x.length - 1) 0) x),qlen q≤E)∧∃z:Int,z≠0∧z.natAbs≤pw E∧Ints (ag_ (z:Rat) (ah_ (ag_ (1 / x.getD (x.length - 1) 0) x))) (pw E)
theorem DivWay.new{A B P Z:List Rat}{k l:Rat}{z:Int}{n s S K M T:Nat}(hl:DivL B Z l z S)(hn:(ah_ A).length≤n)(hP:Ints P (pw s))(hA:peq A (ag_ k P))(hM:qlen k+qlen l+(s+(n+1 - B.length) * (S+1))+4≤M)(hT:M+K+5≤T) :
 DivWay A B K T (fun Q R=>∃t,DivZ A B Q R k n s S M t) where
 start:=⟨0,DivZ.start rfl hn hP hA⟩
 step:=fun ⟨t,h⟩ _ hle hc hQ hX hR hr=>⟨t+1,(h.step hl hle hM hc hQ hX hR hr).1⟩
 room:=fun ⟨t,h⟩=>by
  have hp:t * (S+1)≤(n+1 - B.length) * (S+1):=Nat.mul_le_mul_right _ h.most
  exact⟨fun q hq=>by have:=h.rlen q hq;omega,fun q hq=>by have:=h.qs q hq;omega⟩
 top:=fun ⟨t,h⟩ _ hle=>by
  have hw:=h.way
  have h0:=hl.pos
  have h1:=h.clen hl
  have hp:(t+1) * (S+1)≤(n+1 - B.length) * (S+1):=Nat.mul_le_mul_right _ (by omega)
  omega
theorem lo_{A B Z:List Rat}{k l:Rat}{z:Int}{n s S M:Nat}(hl:DivL B Z l z S)(hM:qlen k+qlen l+(s+(n+1 - B.length) * (S+1))+4≤M) :
 ∀(N:Nat) (Q R:LR_) (t:Nat),R.length≤N→DivZ A B Q R k n s S M t→∃Q' R' t',DivZ A B Q' R' k n s S M t'∧R'.length < B.length
 | 0,Q,R,t,hN,h=>⟨Q,R,t,h,by have:=hl.pos;omega⟩
 | N+1,Q,R,t,hN,h=>by
   by_cases hle:B.length≤R.length
   ·obtain⟨g1,g2⟩:=h.step hl hle hM rfl (peq.refl _) (peq.refl _) (ar_ _) (a9_ _)
    exact lo_ hl hM N _ _ _ (by omega) g1
   ·exact⟨Q,R,t,h,by omega⟩
theorem Eu.congr{A B x y x' y':List Rat}(h:Eu A B x y)(hx:peq x x')(hy:peq y y'):Eu A B x' y':=by
 obtain⟨⟨ux,vx,uy,vy,e,he,h1,h2,h3,h4,h5,h6,h7⟩,hl,hs,hm⟩:=h
 have ex:=ao_ hx
 have ey:=ao_ hy
 exact⟨⟨ux,vx,uy,vy,e,he,hx.symm.trans h1,hy.symm.trans h2,h3,by omega,by omega,by omega,by omega⟩,by omega,by omega,hm⟩
def EuS (A B x y:LR_):Prop:=(peq x A∧peq y B)∨(peq x B∧peq y A∧plen A < plen B)∨Eu A B x y∨Eu B A x y
theorem EuS.step{A B x y q r:List Rat}(h:EuS A B x y)(hd:isDiv x y q r):EuS A B y r:=by
 rcases h with ⟨hx,hy⟩ | ⟨hx,hy,hl⟩ | h | h
 ·have hd':=hd.of hx hy (peq.refl q) (peq.refl r)
  by_cases hl:plen B≤plen A
  ·exact .inr (.inr (.inl ((Eu.start hd' hl).congr hy.symm (peq.refl r))))
  ·have h0:isDiv A B [] A:=⟨fun i=>by rw[bf_,pmul,ef_];grind,by omega⟩
   exact .inr (.inl ⟨hy,(hd'.same h0).2,by omega⟩)
 ·have hd':=hd.of hx hy (peq.refl q) (peq.refl r)
  exact .inr (.inr (.inr ((Eu.start hd' (by omega)).congr hy.symm (peq.refl r))))
 ·exact .inr (.inr (.inl (h.step hd)))
 ·exact .inr (.inr (.inr (h.step hd)))
theorem size_pw{s nn:Nat}(hn:2 * nn+1≤4294967296):nn * ((2 * (nn * pw s)+1) ^ nn * pw s)≤pw ((s+1) * (nn+1)):=by
 have h1:2 * (nn * pw s)+1≤pw (s+1):=by
  have h2:=fh_ s
  have h3:(2 * nn+1) * pw s≤pw 1 * pw s:=Nat.mul_le_mul_right _ (by rw[rc_];exact hn)
  rw[←ff_,Nat.add_comm 1 s,Nat.add_mul,Nat.mul_assoc,Nat.one_mul] at h3
  omega
 have h4:(2 * (nn * pw s)+1) ^ nn≤pw ((s+1) * nn):=by
  have h5:pw ((s+1) * nn)=pw (s+1) ^ nn:=Nat.pow_mul _ _ _
  rw[h5]
  exact Nat.pow_le_pow_left h1 nn
 have h6:nn≤pw 1:=by rw[rc_];omega
 refine Nat.le_trans (Nat.mul_le_mul h6 (Nat.mul_le_mul_right _ h4)) ?_
 rw[←ff_,←ff_]
 exact cn_ (by rw[Nat.mul_add];omega)
theorem EuS.small{A B x y:List Rat}{c:Rat}{s:Nat}(h:EuS A B x y)(hc:c≠0)(hA:Ints (ag_ c A) (pw s))(hB:Ints (ag_ c B) (pw s))(hn:2 * (plen A+plen B)+1≤4294967296) :
 ∃k:Rat,k≠0∧Ints (ag_ k y) (pw ((s+1) * (plen A+plen B+1))):=by
 have hs:pw s≤pw ((s+1) * (plen A+plen B+1)):=cn_ (by rw[Nat.mul_add];omega)
 rcases h with ⟨_,hy⟩ | ⟨_,hy,_⟩ | h | h
 ·exact⟨c,hc,(hB.mono hs).congr (b0_ c hy.symm)⟩
 ·exact⟨c,hc,(hA.mono hs).congr (b0_ c hy.symm)⟩
 ·obtain⟨k,h1,h2⟩:=h.size hc hA hB
  exact⟨k,h1,h2.mono (size_pw hn)⟩
 ·obtain⟨k,h1,h2⟩:=h.size hc hB hA
  rw[Nat.add_comm (plen B) (plen A)] at h2
  exact⟨k,h1,h2.mono (size_pw hn)⟩
structure GcdZ (A B x y:LR_) (S E:Nat):Prop where
 st:EuS A B x y
 xf:∃(k:Rat) (P:LR_),k≠0∧Ints P (pw S)∧peq x (ag_ k P)∧qlen k+(x.length+y.length) * (S+3)≤E
 yf:∃(l:Rat) (Z:LR_),l≠0∧Ints Z (pw S)∧peq y (ag_ l Z)∧qlen l+2 * y.length * (S+3)≤E
theorem du_{c:Rat}(hc:c≠0)(a:LR_):peq a (ag_ (1 / c) (ag_ c a)):=fun i=>by
 rw[aj_,aj_]
 have:1 / c * c=1:=Rat.div_mul_cancel hc
 grind
theorem GcdZ.start{A B:List Rat}{c s S E:Nat}(hc:0 < c)(hcs:c≤pw s)(hA:Ints (ag_ ((c:Nat):Rat) A) (pw s))(hB:Ints (ag_ ((c:Nat):Rat) B) (pw s))(hS:s≤S){n:Nat}(hnA:plen A≤n)(hnB:plen B≤n)(hE:s+2+2 * n * (S+3)≤E):GcdZ A B (ah_ A) (ah_ B) S E:=by
 have hc0:((c:Nat):Rat)≠0:=fun e=>by have h9:c=0:=Rat.natCast_inj.1 (e.trans rfl);omega
 have hq:qlen (1 / ((c:Nat):Rat))≤s+2:=dj_ (z:=1) (t:=s) (by have:=fh_ s;omega) hcs
 have hk0:1 / ((c:Nat):Rat)≠0:=fun e=>by
  have h1:1 / ((c:Nat):Rat) * ((c:Nat):Rat)=1:=Rat.div_mul_cancel hc0
  rw[e,Rat.zero_mul] at h1
  exact absurd h1 (by decide)
 have e1:(ah_ A).length=plen A:=rfl
 have e2:(ah_ B).length=plen B:=rfl
 refine ⟨.inl ⟨ar_ A,ar_ B⟩,⟨_,_,hk0,hA.mono (cn_ hS),(ar_ A).trans (du_ hc0 A),?_⟩,⟨_,_,hk0,hB.mono (cn_ hS),(ar_ B).trans (du_ hc0 B),?_⟩⟩
 ·rw[e1,e2]
  have:(plen A+plen B) * (S+3)≤2 * n * (S+3):=Nat.mul_le_mul_right _ (by omega)
  omega
 ·rw[e2]
  have:2 * plen B * (S+3)≤2 * n * (S+3):=Nat.mul_le_mul_right _ (by omega)
  omega
theorem GcdZ.step{A B x y q r:List Rat}{c:Rat}{s S E:Nat}(h:GcdZ A B x y S E)(hc:c≠0)(hA:Ints (ag_ c A) (pw s))(hB:Ints (ag_ c B) (pw s))(hn:2 * (plen A+plen B)+1≤4294967296)(hS:(s+1) * (plen A+plen B+1)=S)
 (hx:ah_ x=x) (hy:ah_ y=y) (h0:0 < y.length) (hd:isDiv x y q r) (hr:ah_ r=r):GcdZ A B y r S E:=by
 obtain⟨k,P,k0,kP,kx,kE⟩:=h.xf
 obtain⟨l,Z,l0,lZ,ly,lE⟩:=h.yf
 obtain⟨z,hl⟩:=DivL.of hy h0 lZ ly
 have hst:=h.st.step hd
 have hm:r.length < y.length:=by
  have:=hd.2
  rwa [ay_ hr,ay_ hy] at this
 have hyE:qlen l+(y.length+r.length) * (S+3)≤E:=by
  have:(y.length+r.length) * (S+3)≤2 * y.length * (S+3):=Nat.mul_le_mul_right _ (by omega)
  omega
 refine ⟨hst,⟨l,Z,l0,lZ,ly,hyE⟩,?_⟩
 by_cases hr0:r.length=0
 ·refine ⟨1,[],by decide,fun i=>⟨0,rfl,Nat.zero_le _⟩,fun i=>?_,?_⟩
  ·rw[List.eq_nil_of_length_eq_zero hr0];rfl
  ·have h1:qlen 1≤2:=br_ (z:=1) (by decide)
   have h2:1 * (S+3)≤2 * y.length * (S+3):=Nat.mul_le_mul_right _ (by omega)
   rw[hr0]
   omega
 ·obtain⟨Q',R',t,hf,hlt⟩:=lo_ (A:=x) (n:=x.length) (s:=S) (k:=k) hl (Nat.le_refl _) x.length [] (ah_ x) 0 (by rw[hx];exact Nat.le_refl _) (DivZ.start rfl (by rw[hx];exact Nat.le_refl _) kP kx)
  have hdv:isDiv x y Q' R':=⟨hf.sum,by rw[ay_ hf.right,ay_ hy];exact hlt⟩
  have hrR:r=R':=by rw[←hr,←hf.right];exact bu_ (hd.same hdv).2
  subst hrR
  obtain⟨m,m0,mI⟩:=hst.small hc hA hB hn
  rw[hS] at mI
  obtain⟨w,w1,w2⟩:=mI (r.length - 1)
  obtain⟨y0,T,y1,y2,y3,y4⟩:=hf.form
  obtain⟨v,v1,v2⟩:=y3 (r.length - 1)
  have e1:=y4 (r.length - 1)
  rw[aj_,aj_,v1] at e1
  rw[aj_] at w1
  have hrt:=f8_ hr (by omega)
  have hco:co r (r.length - 1)=r.getD (r.length - 1) 0:=rfl
  rw[hco] at e1 w1
  have w0:w≠0:=fun e=>by
   rw[e] at w1
   rcases Rat.mul_eq_zero.1 (w1.trans rfl) with g | g
   ·exact m0 g
   ·exact hrt g
  have yw:y0 * w≠0:=fun e=>by rcases Int.mul_eq_zero.1 e with g | g;exact y1 g;exact w0 g
  have em:1 / m=k * ((v:Rat) / ((y0 * w:Int):Rat)):=by
   have f1:1 / m * m=1:=Rat.div_mul_cancel m0
   have f2:(v:Rat) / ((y0 * w:Int):Rat) * ((y0 * w:Int):Rat)=(v:Rat):=Rat.div_mul_cancel (eq_ yw)
   generalize (v:Rat) / ((y0 * w:Int):Rat)=f at *
   rw[Rat.intCast_mul] at f2
   generalize 1 / m=g at *
   generalize r.getD (r.length - 1) 0=rt at *
   have f3:(y0:Rat) * (w:Rat) * (g - k * f)=0:=by grind
   rcases Rat.mul_eq_zero.1 f3 with a | a
   ·rcases Rat.mul_eq_zero.1 a with a | a
    ·exact absurd a (eq_ y1)
    ·exact absurd a (eq_ w0)
   ·grind
  have hq:qlen (1 / m)≤qlen k+(S+t * (S+1))+3:=by
   rw[em]
   have q1:=cu_ k ((v:Rat) / ((y0 * w:Int):Rat))
   have q2:=db_ (z:=v) (y:=y0 * w) (t:=S+t * (S+1)) v2 (by
    rw[Int.natAbs_mul]
    refine Nat.le_trans (Nat.mul_le_mul y2 w2) ?_
    rw[←ff_]
    exact cn_ (by rw[Nat.mul_add];omega))
   omega
  refine ⟨1 / m,ag_ m r,fun e=>?_,mI,du_ m0 r,?_⟩
  ·have f1:1 / m * m=1:=Rat.div_mul_cancel m0
   rw[e,Rat.zero_mul] at f1
   exact absurd f1 (by decide)
  ·have hw:=hf.way
   have p1:S+t * (S+1)+3≤(t+1) * (S+3):=by
    rw[Nat.add_mul,Nat.one_mul]
    have:t * (S+1)≤t * (S+3):=Nat.mul_le_mul_left t (by omega)
    omega
   have p2:(t+1) * (S+3)+2 * r.length * (S+3)≤(x.length+y.length) * (S+3):=by
    rw[←Nat.add_mul]
    exact Nat.mul_le_mul_right _ (by omega)
   omega
theorem GcdWay.new{A B:List Rat}{c s S E:Nat}(hc:0 < c)(hcs:c≤pw s)(hA:Ints (ag_ ((c:Nat):Rat) A) (pw s))(hB:Ints (ag_ ((c:Nat):Rat) B) (pw s))(hn:2 * (plen A+plen B)+1≤4294967296)(hS:(s+1) * (plen A+plen B+1)=S){n:Nat}(hnA:plen A≤n)(hnB:plen B≤n)(hE:s+2+2 * n * (S+3)≤E) :
 GcdWay A B (3 * E) (S+2) (fun x y=>GcdZ A B x y S E) where
 start:=GcdZ.start hc hcs hA hB (by rw[←hS,Nat.mul_add];omega) hnA hnB hE
 div:=fun {x y} h hx hy h0=>by
  obtain⟨k,P,k0,kP,kx,kE⟩:=h.xf
  obtain⟨l,Z,l0,lZ,ly,lE⟩:=h.yf
  obtain⟨z,hl⟩:=DivL.of hy h0 lZ ly
  have a1:x.length * (S+3)+y.length * (S+3)=(x.length+y.length) * (S+3):=(Nat.add_mul _ _ _).symm
  have a2:1 * (S+3)≤y.length * (S+3):=Nat.mul_le_mul_right _ h0
  have a3:2 * y.length * (S+3)=y.length * (S+3)+y.length * (S+3):=by rw[Nat.mul_assoc];omega
  have a4:(x.length+1 - y.length) * (S+1)≤x.length * (S+3):=Nat.mul_le_mul (by omega) (by omega)
  have hint:∀{k:Rat} {P:List Rat},Ints P (pw S)→∀i,qlen (co (ag_ k P) i)≤qlen k+S+3:=fun {k P} hP i=>by
   obtain⟨u,u1,u2⟩:=hP i
   rw[aj_,u1]
   have g1:=cu_ k (u:Rat)
   have g2:=db_ (z:=u) (y:=1) (t:=S) u2 (by have:=fh_ S;omega)
   have g3:(u:Rat) / ((1:Int):Rat)=(u:Rat):=by
    have:((1:Int):Rat)=1:=rfl
    rw[this,Rat.div_def,Rat.inv_eq_of_mul_eq_one (Rat.mul_one 1),Rat.mul_one]
   rw[g3] at g2
   omega
  refine ⟨qlen l+S+3,_,cg_ fun i=>by rw[ly i];exact hint lZ i,cg_ fun i=>?_,DivWay.new (n:=x.length) (s:=S) hl (by rw[hx];exact Nat.le_refl _) kP kx (Nat.le_refl _) ?_⟩
  ·rw[kx i]
   have:=hint (k:=k) kP i
   omega
  ·omega
 step:=fun {x y q r} h hx hy h0 hd hr=>by
  have hc0:((c:Nat):Rat)≠0:=fun e=>by have h9:c=0:=Rat.natCast_inj.1 (e.trans rfl);omega
  exact h.step hc0 hA hB hn hS hx hy h0 hd hr
 over:=fun {x} h hx h0=>by
  obtain⟨k,P,k0,kP,kx,kE⟩:=h.xf
  have a1:1 * (S+3)≤(x.length+([]:LR_).length) * (S+3):=Nat.mul_le_mul_right _ (by simp;omega)
  obtain⟨w,w1,w2⟩:=kP (x.length - 1)
  have e1:=kx (x.length - 1)
  rw[aj_,w1] at e1
  have hxt:=f8_ hx h0
  have ht:x.getD (x.length - 1) 0=k * (w:Rat):=e1
  have w0:w≠0:=fun e=>by
   rw[e] at ht
   exact hxt (ht.trans (Rat.mul_zero k))
  have hw:=eq_ w0
  have f0:k * (w:Rat)≠0:=fun e=>by rcases Rat.mul_eq_zero.1 e with g | g;exact k0 g;exact hw g
  have hone:∀{u:Int},u.natAbs≤pw S→qlen (k * (u:Rat))≤qlen k+S+3:=fun {u} u2=>by
   have g1:=cu_ k (u:Rat)
   have g2:=db_ (z:=u) (y:=1) (t:=S) u2 (by have:=fh_ S;omega)
   have g3:(u:Rat) / ((1:Int):Rat)=(u:Rat):=by
    have:((1:Int):Rat)=1:=rfl
    rw[this,Rat.div_def,Rat.inv_eq_of_mul_eq_one (Rat.mul_one 1),Rat.mul_one]
   rw[g3] at g2
   omega
  rw[ht]
  have hfi:∀(i:Nat) (u:Int),co P i=(u:Rat)→co (ah_ (ag_ (1 / (k * (w:Rat))) x)) i=(u:Rat) / (w:Rat):=fun i u u1=>by
   rw[e5_,aj_,kx i,aj_,u1]
   have f1:1 / (k * (w:Rat)) * (k * (w:Rat))=1:=Rat.div_mul_cancel f0
   have f2:(u:Rat) / (w:Rat) * (w:Rat)=(u:Rat):=Rat.div_mul_cancel hw
   generalize 1 / (k * (w:Rat))=a at *
   generalize (u:Rat) / (w:Rat)=b at *
   have f4:(w:Rat) * (a * (k * (u:Rat)) - b)=0:=by grind
   rcases Rat.mul_eq_zero.1 f4 with g | g
   ·exact absurd g hw
   ·grind
  refine ⟨?_,cg_ fun i=>?_,cg_ fun i=>?_,w,w0,Nat.le_trans w2 (cn_ (by omega)),fun i=>?_⟩
  ·have g1:=hx_ (k * (w:Rat))
   rw[Rat.div_def,Rat.one_mul]
   have g2:=hone w2
   omega
  ·obtain⟨u,u1,u2⟩:=kP i
   rw[kx i,aj_,u1]
   have:=hone u2
   omega
  ·obtain⟨u,u1,u2⟩:=kP i
   rw[hfi i u u1]
   exact db_ u2 w2
  ·obtain⟨u,u1,u2⟩:=kP i
   refine ⟨u,?_,Nat.le_trans u2 (cn_ (by omega))⟩
   rw[aj_,hfi i u u1,Rat.mul_comm]
   exact Rat.div_mul_cancel hw
def o5_ (A B:LR_) (K:Nat) (w:World) (e:Ending) (w':World):Prop:=∃(a:OA_) (n c:Nat) (g:LR_),e=.returned (.slice a n c)∧Rw w' a n c g∧isGcd A B g∧ah_ g=g∧(∀x∈g,qlen x≤K)∧(∃z:Int,z≠0∧z.natAbs≤pw K∧Ints (ag_ (z:Rat) g) (pw K))∧Below w.heap.size w w'
structure Rf (u v:LR_):Prop where
 ur:ah_ u=u
 vr:ah_ v=v
 v0:plen v≠0
 one:co v (plen v - 1)=1
 cop:∃s t,peq (padd (pmul s u) (pmul t v)) [1]
def isF (U V u v:LR_):Prop:=Rf u v∧(plen V=0→u=[])∧(plen V≠0→peq (pmul u V) (pmul v U))
theorem g3_{a b c:List Rat}(hc:plen c≠0)(h:peq (pmul a c) (pmul b c)):peq a b:=by
 have h1:peq (pmul (psub a b) c) []:=ap_ fun x=>by
  have:=ak_ x h
  rw[ae_,ae_] at this
  rw[ae_,cj_]
  show _=(0:Rat)
  grind
 have h2:plen (psub a b)=0:=(p9_ (ao_ h1)).resolve_right hc
 intro i
 have:=plen_zero.1 h2 i
 rw[d6_] at this
 grind
theorem Rf.eval_cop{u v:List Rat}(h:Rf u v):∃s t:LR_,∀x,ba_ x s * ba_ x u+ba_ x t * ba_ x v=1:=by
 obtain⟨s,t,hst⟩:=h.cop
 refine ⟨s,t,fun x=>?_⟩
 have h1:=ak_ x hst
 rwa [a2_,ae_,ae_,b3_] at h1
theorem Rf.times{u v u' v':List Rat}(h:Rf u v)(he:peq (pmul u v') (pmul v u')):∃K,peq u' (pmul u K)∧peq v' (pmul v K):=by
 obtain⟨s,t,hst⟩:=h.eval_cop
 refine ⟨padd (pmul s u') (pmul t v'),ap_ fun x=>?_,ap_ fun x=>?_⟩
 ·have h1:=hst x
  have h2:=ak_ x he
  rw[ae_,ae_] at h2
  rw[ae_,a2_,ae_,ae_];grind
 ·have h1:=hst x
  have h2:=ak_ x he
  rw[ae_,ae_] at h2
  rw[ae_,a2_,ae_,ae_];grind
theorem Rf.same{u v u' v':List Rat}(h:Rf u v)(h':Rf u' v')(he:peq (pmul u v') (pmul v u')):u'=u∧v'=v:=by
 obtain⟨K,hu,hv⟩:=h.times he
 obtain⟨K',_,hv'⟩:=h'.times (u':=u) (v':=v) (ap_ fun x=>by
  have h2:=ak_ x he
  rw[ae_,ae_] at h2 ⊢
  grind)
 have hK:plen K≠0:=fun e=>h'.v0 (by rw[ao_ hv,ao_ (a6_ (peq.refl v) (c2_ e)),ao_ (d4_ v)];rfl)
 have hK':plen K'≠0:=fun e=>h.v0 (by rw[ao_ hv',ao_ (a6_ (peq.refl v') (c2_ e)),ao_ (d4_ v')];rfl)
 have l1:=ao_ hv
 have l2:=ao_ hv'
 rw[dx_ h.v0 hK] at l1
 rw[dx_ h'.v0 hK'] at l2
 have hK1:plen K=1:=by have:=h.v0;have:=h'.v0;omega
 have ht:=(fp_ (a:=v) (b:=K) (m:=plen v - 1) (n:=0) (by have:=h.v0;omega) (by omega)).2
 rw[h.one,Nat.add_zero,←hv,Rat.one_mul] at ht
 have h1:=h'.one
 rw[show plen v' - 1=plen v - 1 by omega,ht] at h1
 have hKe:peq K [1]:=fun i=>by
  cases i with
  | zero=>exact h1
  | succ i=>rw[ct_ (a:=K) (by omega),ch_,ef_]
 constructor
 ·rw[←h'.ur,←h.ur]
  refine bu_ (hu.trans (ap_ fun x=>?_))
  rw[ae_,ak_ x hKe,b3_];grind
 ·rw[←h'.vr,←h.vr]
  refine bu_ (hv.trans (ap_ fun x=>?_))
  rw[ae_,ak_ x hKe,b3_];grind
theorem rf_nought:Rf [] [1]:=⟨by decide,by decide +kernel,by rw[eo_ (by decide)];decide,by rw[eo_ (by decide)];rfl,[],[1],ap_ fun x=>by
 rw[a2_,ae_,ae_,b3_];show 0 * _+_=_;grind⟩
theorem Rf.none{v:List Rat}(h:Rf [] v):v=[1]:=(rf_nought.same h (ap_ fun x=>by rw[ae_,ae_];show 0 * _=_ * 0;grind)).2
theorem isF.same{U V u v u' v':List Rat}(h:isF U V u v)(h':isF U V u' v'):u'=u∧v'=v:=by
 obtain⟨h1,h2,h3⟩:=h
 obtain⟨g1,g2,g3⟩:=h'
 by_cases hV:plen V=0
 ·have e1:=h2 hV
  have e2:=g2 hV
  subst e1
  subst e2
  exact⟨rfl,by rw[h1.none,g1.none]⟩
 ·refine h1.same g1 (g3_ hV (ap_ fun x=>?_))
  have e1:=ak_ x (h3 hV)
  have e2:=ak_ x (g3 hV)
  rw[ae_,ae_] at e1 e2
  rw[ae_,ae_,ae_,ae_];grind
theorem isF.cross{U V U' V' u v:List Rat}(h:isF U V u v)(hV:plen V≠0)(hV':plen V'≠0)(he:peq (pmul U V') (pmul U' V)):isF U' V' u v:=by
 refine ⟨h.1,fun e=>absurd e hV',fun _=>g3_ hV (ap_ fun x=>?_)⟩
 have e1:=ak_ x (h.2.2 hV)
 have e2:=ak_ x he
 rw[ae_,ae_] at e1 e2
 rw[ae_,ae_,ae_,ae_];grind
theorem isF.of{U V U' V' u v:List Rat}(h:isF U V u v)(hU:peq U U')(hV:peq V V'):isF U' V' u v:=
 ⟨h.1,fun e=>h.2.1 (by rw[ao_ hV];exact e),fun e=>(a6_ (peq.refl u) hV.symm).trans ((h.2.2 (by rw[ao_ hV];exact e)).trans (a6_ (peq.refl v) hU))⟩
theorem Rf.isF{u v:List Rat}(h:Rf u v):isF u v u v:=⟨h,fun e=>absurd e h.v0,fun _=>lc_ u v⟩
theorem isF.zero{U V u v:List Rat}(h:isF U V u v)(hU:plen U=0∨plen V=0):u=[]∧v=[1]:=by
 have hu:u=[]:=by
  by_cases hV:plen V=0
  ·exact h.2.1 hV
  ·have h1:=h.2.2 hV
   have h2:plen (pmul u V)=0:=ao_ (h1.trans ((a6_ (peq.refl v) (c2_ (hU.resolve_right hV))).trans (d4_ v)))
   have h3:=(p9_ h2).resolve_right hV
   rw[←h.1.ur]
   exact List.eq_nil_of_length_eq_zero h3
 subst hu
 exact⟨rfl,h.1.none⟩
theorem gn_{U V:List Rat}(hU:plen U=0∨plen V=0):isF U V [] [1]:=by
 refine ⟨rf_nought,fun _=>rfl,fun hV=>?_⟩
 have h1:=c2_ (hU.resolve_right hV)
 exact ap_ fun x=>by rw[ae_,ae_,ak_ x h1];show 0 * _=_ * 0;grind
theorem si_{U V g x y:List Rat}{c:Rat}(hg:isGcd U V g)(hV:plen V≠0)(hx:peq U (pmul x g))(hy:peq V (pmul y g))(hc:c=1 / co y (plen y - 1)) :
 isF U V (ah_ (ag_ c x)) (ah_ (ag_ c y)):=by
 have hg0:plen g≠0:=fun e=>hV (by rw[ao_ hy,ao_ (a6_ (peq.refl y) (c2_ e)),ao_ (d4_ y)];rfl)
 have hy0:plen y≠0:=fun e=>hV (by rw[ao_ hy,ao_ (a6_ (c2_ e) (peq.refl g))];rfl)
 have ht:=ec_ (a:=y) (n:=plen y - 1) (by omega)
 have hcy:c * co y (plen y - 1)=1:=by rw[hc];exact Rat.div_mul_cancel ht
 have hc0:c≠0:=fun e=>by rw[e,Rat.zero_mul] at hcy;exact absurd hcy (by decide)
 have hpl:plen (ah_ (ag_ c y))=plen y:=by rw[ao_ (ar_ _),bj_ hc0]
 obtain⟨s,t,hst⟩:=hg.1.2.2
 have hb:peq (padd (pmul s x) (pmul t y)) [1]:=g3_ hg0 (ap_ fun z=>by
  have e1:=ak_ z hst
  have e2:=ak_ z hx
  have e3:=ak_ z hy
  rw[a2_,ae_,ae_] at e1
  rw[ae_] at e2 e3
  rw[ae_,ae_,b3_,a2_,ae_,ae_];grind)
 refine ⟨⟨a9_ _,a9_ _,by rw[hpl];exact hy0,by rw[hpl,e5_,aj_];exact hcy,ag_ (1 / c) s,ag_ (1 / c) t,ap_ fun z=>?_⟩,fun e=>absurd e hV,fun _=>ap_ fun z=>?_⟩
 ·have e1:=ak_ z hb
  have e4:1 / c * c=1:=Rat.div_mul_cancel hc0
  rw[a2_,ae_,ae_,b3_] at e1
  rw[a2_,ae_,ae_,au_,au_,ak_ z (ar_ _),ak_ z (ar_ _),au_,au_,b3_]
  generalize 1 / c=d at *
  grind
 ·have e2:=ak_ z hx
  have e3:=ak_ z hy
  rw[ae_] at e2 e3
  rw[ae_,ae_,ak_ z (ar_ _),ak_ z (ar_ _),au_,au_,e2,e3];grind
theorem isF.whole{U V u v:List Rat}(h:isF U V u v)(hV:plen V≠0):∃G,peq U (pmul u G)∧peq V (pmul v G)∧plen G≠0:=by
 obtain⟨K,h1,h2⟩:=h.1.times (h.2.2 hV)
 exact⟨K,h1,h2,fun e=>hV (by rw[ao_ h2,ao_ (a6_ (peq.refl v) (c2_ e)),ao_ (d4_ v)];rfl)⟩
theorem isF.lens{U V u v:List Rat}(h:isF U V u v)(hV:plen V≠0):plen u≤plen U∧plen v≤plen V:=by
 obtain⟨G,h1,h2,h3⟩:=h.whole hV
 have l2:=ao_ h2
 rw[dx_ h.1.v0 h3] at l2
 by_cases hu:plen u=0
 ·exact⟨by omega,by omega⟩
 ·have l1:=ao_ h1
  rw[dx_ hu h3] at l1
  exact⟨by omega,by omega⟩
theorem isF.small{U V u v:List Rat}{c:Rat}{s:Nat}(h:isF U V u v)(hV:plen V≠0)(hc:c≠0)(hU:Ints (ag_ c U) (pw s))(hVI:Ints (ag_ c V) (pw s))(hn:2 * (plen u+plen v)+1≤4294967296) :
 ∃k:Int,k≠0∧k.natAbs≤pw ((s+1) * (plen u+plen v))∧Ints (ag_ (k:Rat) u) (pw ((s+1) * (plen u+plen v)))∧Ints (ag_ (k:Rat) v) (pw ((s+1) * (plen u+plen v))):=by
 obtain⟨G,h1,h2,h3⟩:=h.whole hV
 obtain⟨k,k0,ku,kv⟩:=pc_ hc hU hVI h1 h2 h3 h.1.v0 h.1.cop
 have hX:(2 * ((plen u+plen v) * pw s)+1) ^ (plen u+plen v - 1)≤pw ((s+1) * (plen u+plen v)):=by
  have p1:2 * ((plen u+plen v) * pw s)+1≤pw (s+1):=by
   have p2:=fh_ s
   have p3:(2 * (plen u+plen v)+1) * pw s≤pw 1 * pw s:=Nat.mul_le_mul_right _ (by rw[rc_];exact hn)
   rw[←ff_,Nat.add_comm 1 s,Nat.add_mul,Nat.mul_assoc,Nat.one_mul] at p3
   omega
  have p5:pw ((s+1) * (plen u+plen v))=pw (s+1) ^ (plen u+plen v):=Nat.pow_mul _ _ _
  rw[p5]
  exact Nat.le_trans (Nat.pow_le_pow_left p1 _) (Nat.pow_le_pow_right (fh_ _) (by omega))
 have ku2:=ku.mono hX
 have kv2:=kv.mono hX
 obtain⟨z,z1,z2⟩:=kv2 (plen v - 1)
 rw[aj_,h.1.one,Rat.mul_one] at z1
 subst z1
 exact⟨z,fun e=>k0 (by rw[e];rfl),z2,ku2,kv2⟩
theorem isF.value{U V u v:List Rat}(h:isF U V u v){x:Rat}(hx:ba_ x V≠0):ba_ x v≠0∧ba_ x u * ba_ x V=ba_ x v * ba_ x U:=by
 have hV:plen V≠0:=fun e=>hx (by rw[ak_ x (c2_ e)];rfl)
 obtain⟨G,h1,h2,_⟩:=h.whole hV
 have e2:=ak_ x h2
 rw[ae_] at e2
 refine ⟨fun e=>hx (by rw[e2,e];grind),?_⟩
 have:=ak_ x (h.2.2 hV)
 rwa [ae_,ae_] at this
theorem e8_{v w:List Rat}(h:plen v≠0)(k:plen w≠0):plen (pmul v w)≠0:=by rw[dx_ h k];omega
structure Fz (U V:LR_) (h s:Nat):Prop where
 lu:U.length≤h
 lv:V.length≤h
 form:∃c:Nat,0 < c∧c≤pw s∧Ints (ag_ ((c:Nat):Rat) U) (pw s)∧Ints (ag_ ((c:Nat):Rat) V) (pw s)
theorem Fz.mono{U V:List Rat}{h s h' s':Nat}(f:Fz U V h s)(hh:h≤h')(hs:s≤s'):Fz U V h' s':=by
 obtain⟨a,b,c,c1,c2,c3,c4⟩:=f
 exact⟨Nat.le_trans a hh,Nat.le_trans b hh,c,c1,Nat.le_trans c2 (cn_ hs),c3.mono (cn_ hs),c4.mono (cn_ hs)⟩
theorem Fz.swap{U V:List Rat}{h s:Nat}(f:Fz U V h s):Fz V U h s:=⟨f.lv,f.lu,by obtain⟨c,c1,c2,c3,c4⟩:=f.form;exact⟨c,c1,c2,c4,c3⟩⟩
theorem Fz.qlen{U V:List Rat}{h s:Nat}(f:Fz U V h s):∀q∈U,Go.Proofs.YtocebjbjnfammaaGreat.qlen q≤s+2:=by
 obtain⟨c,c1,c2,c3,c4⟩:=f.form
 refine cg_ fun i=>?_
 obtain⟨z,z1,z2⟩:=c3 i
 have hc0:((c:Nat):Rat)≠0:=fun e=>by have h9:c=0:=Rat.natCast_inj.1 (e.trans rfl);omega
 have e:co U i=(z:Rat) / ((c:Nat):Rat):=by
  have f2:(z:Rat) / ((c:Nat):Rat) * ((c:Nat):Rat)=(z:Rat):=Rat.div_mul_cancel hc0
  rw[aj_] at z1
  generalize (z:Rat) / ((c:Nat):Rat)=b at *
  have f4:((c:Nat):Rat) * (co U i - b)=0:=by grind
  rcases Rat.mul_eq_zero.1 f4 with g | g
  ·exact absurd g hc0
  ·grind
 rw[e]
 exact dj_ z2 c2
theorem Fz.of{U V:List Rat}{N n m h s:Nat}(hU:∀q∈U,Go.Proofs.YtocebjbjnfammaaGreat.qlen q≤N)(hV:∀q∈V,Go.Proofs.YtocebjbjnfammaaGreat.qlen q≤N)(hn:U.length≤n)(hm:V.length≤m)(hh:n≤h)(hh':m≤h)(hs:N * (n+m)≤s):Fz U V h s:=by
 obtain⟨c,h1,h2,h3⟩:=ints_of (U ++ V) (fun q hq=>(List.mem_append.1 hq).elim (hU q) (hV q))
 have hl:pw (N * (U ++ V).length)≤pw s:=cn_ (Nat.le_trans (Nat.mul_le_mul_left N (by rw[List.length_append];omega)) hs)
 refine ⟨by omega,by omega,c,h1,Nat.le_trans h2 hl,fun i=>?_,fun i=>?_⟩
 ·by_cases hi:i < U.length
  ·obtain⟨z,g1,g2⟩:=h3 i
   refine ⟨z,?_,Nat.le_trans g2 hl⟩
   rw[←g1,aj_,aj_]
   congr 1
   unfold co
   rw[List.getD_eq_getElem?_getD,List.getD_eq_getElem?_getD,List.getElem?_append_left hi]
  ·exact⟨0,by rw[dk_ (by rw[be_];omega)];rfl,Nat.zero_le _⟩
 ·obtain⟨z,g1,g2⟩:=h3 (U.length+i)
  refine ⟨z,?_,Nat.le_trans g2 hl⟩
  rw[←g1,aj_,aj_]
  congr 1
  unfold co
  rw[List.getD_eq_getElem?_getD,List.getD_eq_getElem?_getD,List.getElem?_append_right (by omega),Nat.add_sub_cancel_left]
theorem Ints.abs{a:List Rat}{k:Int}{H:Nat}(h:Ints (ag_ (k:Rat) a) H):Ints (ag_ ((k.natAbs:Nat):Rat) a) H:=by
 rcases Int.natAbs_eq k with e | e
 ·have h2:(k:Rat)=((k.natAbs:Nat):Rat):=by rw[←Rat.intCast_natCast,←e]
  rwa [←h2]
 ·have h2:((k.natAbs:Nat):Rat) = -(k:Rat):=by
   have h3:(k:Rat) = -((k.natAbs:Nat):Rat):=by rw[←Rat.intCast_natCast,←Rat.intCast_neg,←e]
   rw[h3];grind
  rw[h2]
  exact h.neg
theorem Fz.right{U V u v:List Rat}{h s:Nat}(f:Fz U V h s)(hf:isF U V u v)(h1:1≤h)(h2:h≤1000000):Fz u v h ((s+1) * (2 * h)):=by
 have p1:1≤pw ((s+1) * (2 * h)):=fh_ _
 by_cases hV:plen V=0
 ·obtain⟨rfl,rfl⟩:=hf.zero (.inr hV)
  refine ⟨by simp,by simpa using h1,1,by decide,p1,fun i=>⟨0,rfl,Nat.zero_le _⟩,fun i=>?_⟩
  cases i with
  | zero=>exact⟨1,by rw[aj_,show co [1] 0=(1:Rat) from rfl,Rat.mul_one];rfl,p1⟩
  | succ i=>exact⟨0,by rw[aj_,ch_,ef_,Rat.mul_zero];rfl,Nat.zero_le _⟩
 ·obtain⟨c,c1,c2,c3,c4⟩:=f.form
  obtain⟨l1,l2⟩:=hf.lens hV
  have l3:=bc_ U
  have l4:=bc_ V
  have l5:=ay_ hf.1.ur
  have l6:=ay_ hf.1.vr
  have hl:=f.lu
  have hl':=f.lv
  obtain⟨k,k0,k1,k2,k3⟩:=hf.small hV (c:=((c:Nat):Rat)) (fun e=>by have h9:c=0:=Rat.natCast_inj.1 (e.trans rfl);omega) c3 c4 (by omega)
  have hp:pw ((s+1) * (plen u+plen v))≤pw ((s+1) * (2 * h)):=cn_ (Nat.mul_le_mul_left _ (by omega))
  exact⟨by omega,by omega,k.natAbs,by omega,Nat.le_trans k1 hp,k2.abs.mono hp,k3.abs.mono hp⟩
theorem prod_pw{n X a b:Nat}(hn:n≤1000000)(h:X≤pw a * pw b):n * X≤pw (a+b+1):=by
 rw[ff_ (a+b) 1,ff_,rc_,Nat.mul_comm]
 exact Nat.mul_le_mul h (by omega)
theorem Ints.prod{a b:List Rat}{c d:Nat}{s t:Nat}(h:Ints (ag_ ((c:Nat):Rat) a) (pw s))(k:Ints (ag_ ((d:Nat):Rat) b) (pw t))(hn:a.length≤1000000):Ints (ag_ (((c * d:Nat)):Rat) (pmul a b)) (pw (s+t+1)):=by
 refine Ints.congr (Ints.mono (k.mul h) (prod_pw (by rw[be_];exact hn) (Nat.le_refl _))) (ap_ fun x=>?_)
 rw[ae_,au_,au_,au_,ae_,Rat.natCast_mul];grind
theorem Fz.add{u1 v1 u2 v2:List Rat}{h1 h2 r1 r2:Nat}(f:Fz u1 v1 h1 r1)(g:Fz u2 v2 h2 r2)(hh:h1≤1000000)(hh':h2≤1000000):Fz (padd (pmul u1 v2) (pmul u2 v1)) (pmul v1 v2) (h1+h2) (r1+r2+2):=by
 obtain⟨a1,a2,c,c1,c2,c3,c4⟩:=f
 obtain⟨b1,b2,d,d1,d2,d3,d4⟩:=g
 have p1:=b1_ u1 v2
 have p2:=b1_ u2 v1
 have p3:=b1_ v1 v2
 have p4:=gw_ (pmul u1 v2) (pmul u2 v1)
 have e1:=c3.prod d4 (by omega)
 have e2:=d3.prod c4 (by omega)
 have e3:=c4.prod d4 (by omega)
 rw[Nat.mul_comm d c,Nat.add_comm r2 r1] at e2
 refine ⟨by omega,by omega,c * d,Nat.mul_pos c1 d1,?_,Ints.congr (Ints.mono (e1.add e2) (two_pw _)) (ap_ fun x=>?_),e3.mono (cn_ (by omega))⟩
 ·refine Nat.le_trans (Nat.mul_le_mul c2 d2) ?_
  rw[←ff_];exact cn_ (by omega)
 ·rw[a2_,au_,au_,au_,a2_];grind
theorem Fz.mul{u1 v1 u2 v2:List Rat}{h1 h2 r1 r2:Nat}(f:Fz u1 v1 h1 r1)(g:Fz u2 v2 h2 r2)(hh:h1≤1000000):Fz (pmul u1 u2) (pmul v1 v2) (h1+h2) (r1+r2+2):=by
 obtain⟨a1,a2,c,c1,c2,c3,c4⟩:=f
 obtain⟨b1,b2,d,d1,d2,d3,d4⟩:=g
 have p1:=b1_ u1 u2
 have p3:=b1_ v1 v2
 refine ⟨by omega,by omega,c * d,Nat.mul_pos c1 d1,?_,(c3.prod d3 (by omega)).mono (cn_ (by omega)),(c4.prod d4 (by omega)).mono (cn_ (by omega))⟩
 refine Nat.le_trans (Nat.mul_le_mul c2 d2) ?_
 rw[←ff_];exact cn_ (by omega)
open Go.ChangeShapes Go.WideShapes Go.ChangeAt Go.RowKit Go.Deep
def nl_ (l:List Value):Prop:=∀u∈l,∃(a:OA_) (n c:Nat),u=.slice a n c
def holdsSlices (w:World) (v:Value):Prop:=∀g,v.ownBlock=some g→∀(j:Nat) u,w.cell? ⟨g,j,none⟩=some u→∃(a:OA_) (n c:Nat),u=.slice a n c
theorem g9_(w:World):holdsSlices w (.slice none 0 0):=fun g h=>by simp[Value.ownBlock] at h
theorem holdsSlices.clean{w:World}{v:Value}(h:holdsSlices w v):Go.Proofs.YtocebjbjnfammaaGreat.clean w v:=fun g hg j k hc=>by
 obtain⟨a,n,c,e⟩:=h g hg j _ hc
 cases e
theorem co_{w:World}{g:Nat}{n c:Nat}{cur:Array Value}{e:TypeId}{fr:Nat × Nat}(hg:w.heap[g]? = some (.cells cur e fr))(h:nl_ cur.toList):holdsSlices w (.slice (some ⟨g,0,none⟩) n c):=by
 intro g' hg' j u hc
 simp[Value.ownBlock] at hg'
 subst hg'
 rw[cell_of_row w g j cur e fr hg] at hc
 have hm:u∈cur:=Array.mem_of_getElem? hc
 exact h _ (by simpa using hm)
def anew (w:World) (v v':Value):Prop:=∀j,v'.ownBlock=some j→v.ownBlock=some j∨w.heap.size≤j
structure Fresh (w:World) (v v':Value):Prop where
 held:holdsSlices w v
 new:anew w v v'
theorem Fxs.aside{w w':World}{v:Value}{a:Option Addr}{n c:Nat}{L:List Fx}(h:Fxs w a n c L)(hc:holdsSlices w v)(hg:w.grownBy w' v.ownBlock):Fxs w' a n c L:=by
 refine ⟨h.1,h.2.1,h.2.2.1,h.2.2.2.1,fun x hx=>Fx.aside (h.ok hx) hc.clean hg,h.2.2.2.2.2.imp id fun ⟨b,off,e,hcl⟩=>⟨b,off,e,fun j hj=>?_⟩⟩
 obtain⟨h1,h2,h3⟩:=hcl j hj
 have hlt:b < w.heap.size:=by
  rcases Nat.lt_or_ge b w.heap.size with h9 | h9
  ·exact h9
  ·rw[World.cell?,Array.getElem?_eq_none h9] at h1;cases h1
 have hne:some b≠v.ownBlock:=fun e2=>by
  obtain⟨_,_,_,e3⟩:=hc b e2.symm _ _ h1
  cases e3
 have hk:=hg.block b hlt hne
 exact⟨(World.cell?_of_block hk).trans h1,(World.cell?_of_block hk).trans h2,(World.cell?_of_block hk).trans h3⟩
structure Sx where
 a:Option Addr
 n:Nat
 c:Nat
def Sx.val (x:Sx):Value:=.slice x.a x.n x.c
def Sx.zero:Sx:=⟨none,0,0⟩
def OwnF (w:World) (base:Nat) (e:TypeId) (v:Value) (LL:List (List Fx)):Prop:=
 ∃XS:List Sx,w.ownsRow base e 1 v XS.length (XS.map Sx.val)∧holdsSlices w v∧XS.length=LL.length∧∀j,j < LL.length→Fxs w (XS.getD j Sx.zero).a (XS.getD j Sx.zero).n (XS.getD j Sx.zero).c (LL.getD j [])
theorem OwnF.nil(w:World)(base:Nat)(e:TypeId):OwnF w base e (.slice none 0 0) []:=⟨[],World.ownsRow_nil _ _ _ _,g9_ _,rfl,fun j hj=>by simp at hj⟩
theorem OwnF.later{w w':World}{base:Nat}{e:TypeId}{v:Value}{LL:List (List Fx)}(h:OwnF w base e v LL)(hb:Below w.heap.size w w'):OwnF w' base e v LL:=by
 obtain⟨XS,⟨h1,h2⟩,h3,h4,h5⟩:=h
 refine ⟨XS,?_,?_,h4,fun j hj=>(h5 j hj).later hb⟩
 ·rcases h2 with ⟨rfl,h0⟩ | ⟨g,cap,cur,rfl,hbg,hg,q4,q5,q6,q7⟩
  ·exact⟨h1,.inl ⟨rfl,h0⟩⟩
  ·exact⟨h1,.inr ⟨g,cap,cur,rfl,hbg,ac_ hg hb,q4,q5,q6,q7⟩⟩
 ·rcases h2 with ⟨rfl,h0⟩ | ⟨g,cap,cur,rfl,hbg,hg,q4,q5,q6,q7⟩
  ·exact g9_ _
  ·intro g2 hg2 j u hu
   simp[Value.ownBlock] at hg2
   subst hg2
   rw[World.cell?_of_block (a:=⟨g,j,none⟩) (hb.block g (Array.getElem?_eq_some_iff.1 hg).1)] at hu
   exact h3 g rfl j u hu
theorem OwnF.l_ {w w':World}{x0 x1 x2 x3}(h:OwnF w x0 x1 x2 x3)(b:Below w.heap.size w w'):Hid (OwnF w' x0 x1 x2 x3):=Lib.hid (h.later b)
theorem OwnF.base{w:World}{base:Nat}{e:TypeId}{v:Value}{LL:List (List Fx)}(h:OwnF w base e v LL)(k:Nat)(hk:v.ownBlock=some k):base≤k:=by
 obtain⟨XS,h1,_⟩:=h
 rcases h1.2 with ⟨rfl,_⟩ | ⟨g,cap,cur,rfl,hbg,_⟩
 ·simp[Value.ownBlock] at hk
 ·simp[Value.ownBlock] at hk
  omega
theorem OwnF.out{w:World}{base:Nat}{e:TypeId}{v:Value}{LL:List (List Fx)}(h:OwnF w base e v LL):∃(a:OA_) (cap:Nat),v=.slice a LL.length cap∧Fxss w a LL.length cap LL:=by
 obtain⟨XS,h1,_,h4,h5⟩:=h
 rcases h1.2 with ⟨rfl,h0⟩ | ⟨g,cap,cur,rfl,hbg,hg,hnc,hcm,hcs,htake⟩
 ·have h0':LL.length=0:=by omega
  refine ⟨none,0,by rw[h0'],rfl,by omega,by omega,fun _=>rfl,.inl h0'⟩
 ·refine ⟨_,cap,by rw[h4],rfl,by omega,by unfold maxLen at hcm;omega,fun e=>(by cases e),.inr ⟨g,0,rfl,fun j hj=>⟨_,_,_,?_,h5 j hj⟩⟩⟩
  have hj':j < XS.length:=by omega
  have h9:=h1.cells (g:=g) rfl j (XS.getD j Sx.zero).val (by rw[List.getElem?_map,List.getElem?_eq_getElem hj',List.getD_eq_getElem?_getD,List.getElem?_eq_getElem hj'];rfl)
  rw[add_plain] at h9
  exact h9
theorem fs_{a b:Option Addr}{n m c d:Nat}:nl_ [.slice a n c,.slice b m d]:=by
 intro u hu
 simp at hu
 rcases hu with rfl | rfl
 ·exact⟨_,_,_,rfl⟩
 ·exact⟨_,_,_,rfl⟩
theorem Rw.boxed{w:World}{a:Option Addr}{n c:Nat}{qs:List Rat}(h:Rw w a n c qs){g:Nat}{x y:Option Addr}{n1 c1 n2 c2:Nat}{t:TypeId}(hg:w.heap[g]? = some (.cells #[.slice x n1 c1,.slice y n2 c2] t (0,0)))(u v:Value) :
 Rw ((w.setCell ⟨g,0,none⟩ u).setCell ⟨g,1,none⟩ v) a n c qs:=by
 obtain⟨L,h1,h2,h3⟩:=h
 exact⟨L,h1.aside (v:=.slice (some ⟨g,0,none⟩) 0 0) (co_ hg fs_) (cb_ (bv_ w g 0 u) (bv_ _ g 1 v)),h2,h3⟩
theorem Rw.lit1(w:World)(e:TypeId){q:Rat}{a b:Option Addr}{n c m d:Nat}(h1:Wd w a n c (dg q.num.natAbs))(h2:Wd w b m d (dg q.den)) :
 Rw (w.alloc (.cells #[.bool (zneg q.num),.slice a n c,.slice b m d] e)) (some ⟨w.heap.size,0,none⟩) 1 1 [q]:=by
 have hb:Below w.heap.size w (w.alloc (.cells #[.bool (zneg q.num),.slice a n c,.slice b m d] e)):=aa_ _ _
 have hx:=ai_ w #[.bool (zneg q.num),.slice a n c,.slice b m d] e
 refine ⟨[rx q a n c b m d],⟨rfl,Nat.le_refl _,by omega,fun h=>(by cases h),fun x hx=>?_,.inr ⟨w.heap.size,0,rfl,fun j hj=>?_⟩⟩,by simp[rx_q],fun x hx=>?_⟩
 ·rw[List.mem_singleton.1 hx];exact⟨h1.later hb,h2.later hb⟩
 ·match j,hj with
  | 0,_=>exact⟨af_ hx 0,af_ hx 1,af_ hx 2⟩
 ·rw[List.mem_singleton.1 hx];exact dl_ ..
theorem Rw.lit0(w:World)(p:Addr):Rw w (some p) 0 0 []:=⟨[],⟨rfl,Nat.le_refl _,by omega,fun h=>(by cases h),fun x hx=>by simp at hx,.inl rfl⟩,rfl,fun x hx=>by simp at hx⟩
theorem a0_{w:World}{A0:Nat}{x y:Value}{t0:TypeId}(h0:w.heap[A0]? = some (.cells #[x,y] t0 (0,0))):w.cell? ⟨A0,0,none⟩=some x∧w.cell? ⟨A0,1,none⟩=some y:=⟨af_ h0 0,af_ h0 1⟩
def LstF (U V:LR_) (w:World) (e:Ending) (w':World):Prop:=∃(a:OA_) (n c:Nat) (u:LR_) (b:OA_) (m d:Nat) (v:LR_),e=.returned (.agg #[.slice a n c,.slice b m d])∧Rw w' a n c u∧Rw w' b m d v∧isF U V u v∧Below w.heap.size w w'
abbrev Pok (h s:Nat):Prop:=h≤50∧(4 * h+24) * ((s+1) * (2 * h+1)+5)≤1900000000
theorem Pok.less{h s h' s':Nat}(k:Pok h s)(hh:h'≤h)(hs:s'≤s):Pok h' s':=by
 obtain⟨h1,h2⟩:=k
 exact⟨by omega,Nat.le_trans (Nat.mul_le_mul (by omega) (Nat.add_le_add_right (Nat.mul_le_mul (by omega) (by omega)) 5)) h2⟩
def Fok (h s:Nat):Prop:=2≤h∧h≤50∧3 * (s+2+2 * h * ((s+1) * (2 * h+1)+3))≤1900000000∧Pok h s
theorem Fok.less{h s h' s':Nat}(k:Fok h s)(h2:2≤h')(hh:h'≤h)(hs:s'≤s):Fok h' s':=by
 obtain⟨k1,k2,k3,k4⟩:=k
 refine ⟨h2,by omega,Nat.le_trans (Nat.mul_le_mul_left 3 (Nat.add_le_add (by omega) (Nat.mul_le_mul (by omega) (Nat.add_le_add_right (Nat.mul_le_mul (by omega) (by omega)) 3)))) k3,k4.less hh hs⟩
theorem law09_to(neg:Bool)(a:OA_)(n cap:Nat)(b:OA_)(m cap':Nat)(w:World):Calls Tryz.prog 17 #[frV neg a n cap b m cap'] w (bi_ (frV neg a n cap b m cap') w):=by
 have HG:Hid (((w.alloc (.cells #[.bool neg,.slice a n cap,.slice b m cap'] 27)).alloc (.cells #[.bool neg,.slice a n cap,.slice b m cap'] 44)).heap[w.heap.size+1]? = some (.cells #[.bool neg,.slice a n cap,.slice b m cap'] 44 (0,0))):=hd_ (c8_ w ((w.alloc (.cells #[.bool neg,.slice a n cap,.slice b m cap'] 27)).alloc (.cells #[.bool neg,.slice a n cap,.slice b m cap'] 44)) _ _ _ _ (Below.refl _ _)).2
 have HB:=hd_ (ab_ (aa_ w (.cells #[.bool neg,.slice a n cap,.slice b m cap'] 27)) (aa_ _ (.cells #[.bool neg,.slice a n cap,.slice b m cap'] 44)))
 go_enter Tryz.func17,Tryz.ntmps17
 unfold frV
 go_wp2
 refine bodyPost_ret (results_cell_row Tryz.results17 _ _ (w.heap.size+1) 44 #[.bool neg,.slice a n cap,.slice b m cap'] (0,0) _ rfl HG.out Tryz.underlying44 rfl (by kernel_rfl)) rfl ?_
 exact⟨rfl,HB.out⟩
theorem law09_of(neg:Bool)(a:OA_)(n cap:Nat)(b:OA_)(m cap':Nat)(w:World):Calls Tryz.prog 73 #[frV neg a n cap b m cap'] w (bi_ (frV neg a n cap b m cap') w):=by
 have HG:Hid (((w.alloc (.cells #[.bool neg,.slice a n cap,.slice b m cap'] 44)).alloc (.cells #[.bool neg,.slice a n cap,.slice b m cap'] 27)).heap[w.heap.size+1]? = some (.cells #[.bool neg,.slice a n cap,.slice b m cap'] 27 (0,0))):=hd_ (c8_ w ((w.alloc (.cells #[.bool neg,.slice a n cap,.slice b m cap'] 44)).alloc (.cells #[.bool neg,.slice a n cap,.slice b m cap'] 27)) _ _ _ _ (Below.refl _ _)).2
 have HB:=hd_ (ab_ (aa_ w (.cells #[.bool neg,.slice a n cap,.slice b m cap'] 44)) (aa_ _ (.cells #[.bool neg,.slice a n cap,.slice b m cap'] 27)))
 go_enter Tryz.func73,Tryz.ntmps73
 unfold frV
 go_wp2
 refine bodyPost_ret (results_cell_row Tryz.results73 _ _ (w.heap.size+1) 27 #[.bool neg,.slice a n cap,.slice b m cap'] (0,0) _ rfl HG.out Tryz.underlying27 rfl (by kernel_rfl)) rfl ?_
 exact⟨rfl,HB.out⟩
theorem mi_{P:Program}(w:World){o:Oper}{a:Act}{K:Act→World→Prop}{Q:Exit→Act→World→Prop}(s x:Operand)(t:TypeId)
 (ho:o.op=.call { callee:=.builtin .append,args:=#[s,x],argTypes:=#[t,t] })
 (base:Nat) (e:TypeId) (i:TypeInfo) (z:Value) (size bytes:Nat) (ht:P.underlying t=some (.slice e)) (hi:P.info? e=some i) (hz:i.zero=some z)
 (hsize:i.size=size) (hby:i.bytes=bytes) (hzs:z.cells.size=size) (hsz:0 < size)
 (v:Value) (n:Nat) (xs:List Value) (hs:a.eval s=v) (hown:w.ownsRow base e size v n xs)
 (ad:Addr) (m c:Nat) (news:List Value) (hx:a.eval x=.slice (some ad) m c) (hl:news.length=m * size) (hnews:∀j u,news[j]? = some u→w.cell? (ad.add j)=some u) (h1:∀u∈news,u.oneCell'=true)
 (h63:n+m≤maxLen) (hbytes:(n+m) * bytes≤140737488355328) (hbase:base≤w.heap.size) (hm:0 < m) (hcl:clean w v) (hzc:c7_ z.cells.toList) (hnc:c7_ news) (hxc:c7_ xs)
 (h:∀v' w',w'.ownsRow base e size v' (n+m) (xs ++ news)→w.grownBy w' v.ownBlock→clean w' v'→K (a.put o.dst v') w'):o.wp P a w K Q:=by
 obtain⟨v',w',hr,h2,h3,h4⟩:=run_append_own (P:=P) w base t o.type e i z size bytes ht hi hz hsize hby hzs hsz v n xs hown ad m c news hl hnews h1 h63 hbytes hbase
 have h5:clean w' v':=by
  subst hsize hby
  rcases hown.2 with ⟨rfl,rfl⟩ | ⟨g,cap,cur,rfl,hbg,hg,hnc',hcm,hcs,htake⟩
  ·have er:=run_append_nil (P:=P) w t o.type e i z ht hi hz ad m c news hl hnews hm (by simp only[maxLen] at h63;omega) (by simp only[Nat.zero_add] at hbytes;omega)
   rw[er] at hr
   simp only[Result.ok.injEq] at hr
   obtain⟨rfl,rfl⟩:=hr
   exact ce_ (heap_alloc_new w.drew _) (by simp only[Array.toList_append];exact bq_ hnc (dg_ hzc _))
  ·by_cases hroom:n+m≤cap
   ·have er:=run_append_room (P:=P) w t o.type e i ht hi g n cap cur hg ad m c news hl hnews h1 hroom (by rw[hl,hcs,←Nat.add_mul];exact Nat.mul_le_mul_right _ hroom)
    rw[er] at hr
    simp only[Result.ok.injEq] at hr
    obtain⟨rfl,rfl⟩:=hr
    have hcu:c7_ cur.toList:=fun u hu k e2=>by
     obtain⟨j,hj,e3⟩:=List.getElem_of_mem hu
     refine hcl g rfl j k ?_
     rw[cell_of_row w g j cur e (0,0) hg,←e2,←e3]
     simp
    refine ce_ (setRow_heap w g cur _ e _ hg) ?_
    refine bq_ (bq_ (fun u hu=>hcu u (List.mem_of_mem_take hu)) hnc) (fun u hu=>hcu u (List.mem_of_mem_drop hu))
   ·have holds:∀j u,xs[j]? = some u→w.cell? ((⟨g,0,none⟩:Addr).add j)=some u:=hown.cells (g:=g) rfl
    have er:=run_append_grow (P:=P) w t o.type e i z ht hi hz ⟨g,0,none⟩ n cap xs hown.1 holds ad m c news hl hnews (by omega) (by simp only[maxLen] at h63;omega) (growslice_fits (by omega) hbytes)
    rw[er] at hr
    simp only[Result.ok.injEq] at hr
    obtain⟨rfl,rfl⟩:=hr
    exact ce_ (heap_alloc_new w.drew _) (by simp only[Array.toList_append];exact bq_ (bq_ hxc hnc) (dg_ hzc _))
 unfold Oper.wp execOp
 simp only[ho,resolve,invoke,builtin,Sem.run_bind,Sem.run_pure,Result.andThen_ok,List.map_toArray,List.map_cons,List.map_nil,hs,hx,hr]
 exact h v' w' h2 h3 h5
theorem fw_{P:Program}{ops:Array Oper}{o:Oper}{act:Act}{w:World}{K:Act→World→Prop}{Q:Exit→Act→World→Prop}{E:Prop}(hgd:o.guard=none)(s x:Operand)(t:TypeId)
 (ho:o.op=.call { callee:=.builtin .append,args:=#[s,x],argTypes:=#[t,t] })
 (base:Nat) (e:TypeId) (i:TypeInfo) (ht:P.underlying t=some (.slice e)) (hi:P.info? e=some i) (hz:i.zero=some (.agg #[.bool false,.slice none 0 0,.slice none 0 0]))
 (hsize:i.size=3) (hby:i.bytes=56) (v:Value) (qs:LR_) (hs:act.eval s=v) (hrow:Row w base e v qs)
 (ad:Addr) (q:Rat) (a:OA_) (n c:Nat) (b:OA_) (m d:Nat) (hx:act.eval x=.slice (some ad) 1 1)
 (hnews:∀j u,(rx q a n c b m d).cells[j]? = some u→w.cell? (ad.add j)=some u) (ha:Wd w a n c (dg q.num.natAbs)) (hb:Wd w b m d (dg q.den))
 (hlen:qs.length≤1000000) (hbase:base≤w.heap.size)
 (h:∀v' w',Row w' base e v' (qs ++ [q])→w.grownBy w' v.ownBlock→(∀k,v.ownBlock=some k→base≤k)→clean w v→K (act.put o.dst v') w'):if Region.wanted o (yielded ops act.tmps)=true then Oper.wp P o act w K Q else E:=by
 have hwt:Region.wanted o (yielded ops act.tmps)=true:=by simp[Region.wanted,hgd]
 rw[if_pos hwt]
 obtain⟨L,h1,h2,h3⟩:=hrow
 have hl:L.length=qs.length:=by rw[←h2,List.length_map]
 have hzw:c7_ (Value.agg #[.bool false,.slice none 0 0,.slice none 0 0]).cells.toList:=by
  intro u hu k
  simp[Value.cells] at hu
  rcases hu with rfl | rfl <;> simp
 refine mi_ w s x t ho base e i (.agg #[.bool false,.slice none 0 0,.slice none 0 0]) 3 56 ht hi hz hsize hby rfl (by decide) v L.length (L.flatMap Fx.cells) hs h1.1 ad 1 1 (rx q a n c b m d).cells hx rfl hnews (hm_ _) (by unfold maxLen;omega) (by omega) hbase (by decide) h1.2 hzw (fn_ _) (dh_ _) ?_
 intro v' w' hown hgrow hcl
 refine h v' w' ⟨L ++ [rx q a n c b m d],⟨by simpa [List.flatMap_append] using hown,hcl⟩,by rw[List.map_append,h2];simp[rx_q],fun y hy=>?_⟩ hgrow (fun k hk=>h1.base k hk) h1.2
 rcases List.mem_append.1 hy with hy | hy
 ·exact⟨Fx.aside (h3 y hy).1 h1.2 hgrow,(h3 y hy).2⟩
 ·rw[List.mem_singleton.1 hy]
  exact⟨⟨ha.aside h1.2 hgrow,hb.aside h1.2 hgrow⟩,dl_ _ _ _ _ _ _ _⟩
theorem d3_{w:World}{A0:Nat}{c0_0 c0_1:Value}{t0:TypeId}(h0:w.heap[A0]? = some (.cells #[c0_0,c0_1] t0 (0,0))):w.cell? ⟨A0,0,none⟩=some c0_0∧w.cell? ⟨A0,1,none⟩=some c0_1:=⟨af_ h0 0,af_ h0 1⟩
theorem as_{w:World}{A0:Nat}{c0_0 c0_1 c0_2:Value}{t0:TypeId}(h0:w.heap[A0]? = some (.cells #[c0_0,c0_1,c0_2] t0 (0,0))):w.cell? ⟨A0,0,none⟩=some c0_0∧w.cell? ⟨A0,1,none⟩=some c0_1∧w.cell? ⟨A0,2,none⟩=some c0_2:=⟨af_ h0 0,af_ h0 1,af_ h0 2⟩
theorem am_{w:World}{A0 A1:Nat}{c0_0 c0_1 c1_0 c1_1:Value}{t0 t1:TypeId}(h0:w.heap[A0]? = some (.cells #[c0_0,c0_1] t0 (0,0)))(h1:w.heap[A1]? = some (.cells #[c1_0,c1_1] t1 (0,0))):w.cell? ⟨A0,0,none⟩=some c0_0∧w.cell? ⟨A0,1,none⟩=some c0_1∧w.cell? ⟨A1,0,none⟩=some c1_0∧w.cell? ⟨A1,1,none⟩=some c1_1:=⟨af_ h0 0,af_ h0 1,af_ h1 0,af_ h1 1⟩
theorem cw_{w:World}{A0 A1:Nat}{c0_0 c0_1 c1_0 c1_1 c1_2:Value}{t0 t1:TypeId}(h0:w.heap[A0]? = some (.cells #[c0_0,c0_1] t0 (0,0)))(h1:w.heap[A1]? = some (.cells #[c1_0,c1_1,c1_2] t1 (0,0))):w.cell? ⟨A0,0,none⟩=some c0_0∧w.cell? ⟨A0,1,none⟩=some c0_1∧w.cell? ⟨A1,0,none⟩=some c1_0∧w.cell? ⟨A1,1,none⟩=some c1_1∧w.cell? ⟨A1,2,none⟩=some c1_2:=⟨af_ h0 0,af_ h0 1,af_ h1 0,af_ h1 1,af_ h1 2⟩
theorem bd_{w:World}{A0 A1:Nat}{c0_0 c0_1 c0_2 c1_0 c1_1 c1_2:Value}{t0 t1:TypeId}(h0:w.heap[A0]? = some (.cells #[c0_0,c0_1,c0_2] t0 (0,0)))(h1:w.heap[A1]? = some (.cells #[c1_0,c1_1,c1_2] t1 (0,0))):w.cell? ⟨A0,0,none⟩=some c0_0∧w.cell? ⟨A0,1,none⟩=some c0_1∧w.cell? ⟨A0,2,none⟩=some c0_2∧w.cell? ⟨A1,0,none⟩=some c1_0∧w.cell? ⟨A1,1,none⟩=some c1_1∧w.cell? ⟨A1,2,none⟩=some c1_2:=⟨af_ h0 0,af_ h0 1,af_ h0 2,af_ h1 0,af_ h1 1,af_ h1 2⟩
theorem cl_{w:World}{A0 A1 A2:Nat}{c0_0 c0_1 c0_2 c1_0 c1_1 c1_2 c2_0 c2_1 c2_2:Value}{t0 t1 t2:TypeId}(h0:w.heap[A0]? = some (.cells #[c0_0,c0_1,c0_2] t0 (0,0)))(h1:w.heap[A1]? = some (.cells #[c1_0,c1_1,c1_2] t1 (0,0)))(h2:w.heap[A2]? = some (.cells #[c2_0,c2_1,c2_2] t2 (0,0))):w.cell? ⟨A0,0,none⟩=some c0_0∧w.cell? ⟨A0,1,none⟩=some c0_1∧w.cell? ⟨A0,2,none⟩=some c0_2∧w.cell? ⟨A1,0,none⟩=some c1_0∧w.cell? ⟨A1,1,none⟩=some c1_1∧w.cell? ⟨A1,2,none⟩=some c1_2∧w.cell? ⟨A2,0,none⟩=some c2_0∧w.cell? ⟨A2,1,none⟩=some c2_1∧w.cell? ⟨A2,2,none⟩=some c2_2:=⟨af_ h0 0,af_ h0 1,af_ h0 2,af_ h1 0,af_ h1 1,af_ h1 2,af_ h2 0,af_ h2 1,af_ h2 2⟩
theorem ij_{c:Rat}{l:List Rat}{k:Nat}(h:k < l.length):(ag_ c l).getD k 0=c * l.getD k 0:=by
 unfold ag_
 rw[List.getD_eq_getElem?_getD,List.getD_eq_getElem?_getD,List.getElem?_map,List.getElem?_eq_getElem h];rfl
theorem jg_:∀{l m:List Rat} {k:Nat},k < l.length→k < m.length→(radd l m).getD k 0=l.getD k 0+m.getD k 0
 | [],_,_,h,_=>by simp at h
 | _ :: _,[],_,_,h=>by simp at h
 | x :: l,y :: m,0,_,_=>rfl
 | x :: l,y :: m,k+1,h,h'=>by
   have:=jg_ (l:=l) (m:=m) (k:=k) (by simpa using h) (by simpa using h')
   simpa [radd] using this
theorem eb_:(Tryz.prog.info? 27).map (fun i=>(i.zero,i.size,i.bytes))=some (some (.agg #[.bool false,.slice none 0 0,.slice none 0 0]),3,56):=by kernel_rfl
theorem r9_:(Tryz.prog.info? 44).map (fun i=>(i.zero,i.size,i.bytes))=some (some (.agg #[.bool false,.slice none 0 0,.slice none 0 0]),3,56):=by kernel_rfl
theorem tf_(a:OA_)(n c:Nat)(L:List Fx)(w:World)(h:Fxs w a n c L)(hn:n≤1000) :
 Calls Tryz.prog 60 #[.slice a n c] w (fun e w'=>∃(a':OA_) (c':Nat),e=.returned (.slice a' n c')∧Fxs w' a' n c' L∧Below w.heap.size w w'):=by
 have HK:=hd_ h
 have HLl:=hd_ h.len
 have hbd:=h.bound
 clear h
 obtain⟨i0,hi,hz0,hz1,hz2⟩:=info_parts r9_
 go_enter Tryz.func60,Tryz.ntmps60
 go_wp2
 go_loopw [3,4] (fun mv iv wr=>∃k:Nat,k≤n∧iv=.int .i64 (k:Int)∧Hid (Cop wr w.heap.size 44 mv (L.take k))∧Hid (Below w.heap.size w wr)∧w.heap.size≤wr.heap.size) (fun _ iv _=>n - (intOf iv).toNat)
 case atStart=>exact⟨0,by omega,rfl,hd_ (Cop.nil _ _ _),hd_ (Below.refl _ _),by omega⟩
 case round=>
  obtain⟨k,hk,rfl,HO,HB,hsz⟩:=hrel
  by_cases hlt:k < n
  ·obtain⟨bb,off,rfl,e0,e1,e2,hok⟩:=HK.out.at hlt
   have HT:Hid (L.take (k+1)=L.take k ++ [L.getD k Fx.zero]):=hd_ (mh_ (by rw[HLl.out];exact hlt))
   have hkL:(L.take k).length≤1000000:=by rw[cq_ (by rw[HLl.out];exact hk)];omega
   generalize L.getD k Fx.zero=xk at *
   obtain⟨sk,ak,nk,ck,lak,bk,mk,dk,lbk⟩:=xk
   simp only at e0 e1 e2
   have HY:=hd_ hok
   have HE:Hid (w.cell? ⟨bb,off+k * 3,none⟩=some (.bool sk)∧w.cell? ⟨bb,off+k * 3+1,none⟩=some (.slice ak nk ck)∧w.cell? ⟨bb,off+k * 3+2,none⟩=some (.slice bk mk dk)):=hd_ ⟨e0,e1,e2⟩
   clear hok e0 e1 e2
   have hki:(k:Int) < (n:Int):=by omega
   obtain⟨e0,e1,e2⟩:=aq_ HE.out HB.out
   go_wp2_with fail
   refine (law09_to sk ak nk ck bk mk dk _).mono ?_
   rintro e w4 ⟨rfl,b4⟩
   clear e0 e1 e2
   replace HB:=bt_ HB b4
   replace HO:=HO.l_ b4
   have hsz4:w.heap.size≤w4.heap.size:=Nat.le_trans hsz b4.size
   clear b4 hsz
   unfold frV
   have ba:=aa_ w4 (.cells #[.bool sk,.slice ak nk ck,.slice bk mk dk] 44)
   have HOa:=HO.l_ ba
   have HBa:=hd_ (ab_ HB.out ba)
   have HYa:=hd_ (HY.out.later HBa.out)
   clear ba HO HB
   go_wp2_with (at_builtin;refine gs_ _ rfl _ _ 33 rfl w.heap.size 44 i0 Tryz.underlying33 hi hz0 hz1 hz2 _ (L.take k) rfl HOa.out ⟨w4.heap.size,0,none⟩ ⟨sk,ak,nk,ck,lak,bk,mk,dk,lbk⟩ rfl (jw_ _ _ _) HYa.out hkL (by rw[al_];omega) ?_)
   intro mv5 w5 hrow hgrow hbase hcl
   have HO5:Hid (Cop w5 w.heap.size 44 mv5 (L.take (k+1))):=hd_ (by rw[HT.out];exact hrow)
   have HB5:=hd_ (HBa.out.grown hgrow (by rw[al_];omega) hbase)
   have hsz5:w.heap.size≤w5.heap.size:=Nat.le_trans (by rw[al_];omega) hgrow.size
   clear hrow hgrow hbase hcl HOa HBa HYa HT HE HY hsz4
   go_wp2
   go_roundw
   case rel=>exact⟨k+1,by omega,by go_num,HO5,HB5,hsz5⟩
   case measure=>simp[intOf];omega
  ·obtain rfl:k=n:=by omega
   have HF:=hd_ (HO.out.whole HLl.out)
   obtain⟨a9,c9,rfl,h9⟩:=HF.out.out
   rw[HLl.out] at h9 ⊢
   have HF9:=hd_ h9
   clear h9 HF HO
   go_wp2
   go_ret
   exact⟨a9,c9,rfl,HF9.out,HB.out⟩
theorem law11_of(a:OA_)(n c:Nat)(L:List Fx)(w:World)(h:Fxs w a n c L)(hn:n≤1000) :
 Calls Tryz.prog 115 #[.slice a n c] w (fun e w'=>∃(a':OA_) (c':Nat),e=.returned (.slice a' n c')∧Fxs w' a' n c' L∧Below w.heap.size w w'):=by
 have HK:=hd_ h
 have HLl:=hd_ h.len
 have hbd:=h.bound
 clear h
 obtain⟨i0,hi,hz0,hz1,hz2⟩:=info_parts eb_
 go_enter Tryz.func115,Tryz.ntmps115
 go_wp2
 go_loopw [3,4] (fun mv iv wr=>∃k:Nat,k≤n∧iv=.int .i64 (k:Int)∧Hid (Cop wr w.heap.size 27 mv (L.take k))∧Hid (Below w.heap.size w wr)∧w.heap.size≤wr.heap.size) (fun _ iv _=>n - (intOf iv).toNat)
 case atStart=>exact⟨0,by omega,rfl,hd_ (Cop.nil _ _ _),hd_ (Below.refl _ _),by omega⟩
 case round=>
  obtain⟨k,hk,rfl,HO,HB,hsz⟩:=hrel
  by_cases hlt:k < n
  ·obtain⟨bb,off,rfl,e0,e1,e2,hok⟩:=HK.out.at hlt
   have HT:Hid (L.take (k+1)=L.take k ++ [L.getD k Fx.zero]):=hd_ (mh_ (by rw[HLl.out];exact hlt))
   have hkL:(L.take k).length≤1000000:=by rw[cq_ (by rw[HLl.out];exact hk)];omega
   generalize L.getD k Fx.zero=xk at *
   obtain⟨sk,ak,nk,ck,lak,bk,mk,dk,lbk⟩:=xk
   simp only at e0 e1 e2
   have HY:=hd_ hok
   have HE:Hid (w.cell? ⟨bb,off+k * 3,none⟩=some (.bool sk)∧w.cell? ⟨bb,off+k * 3+1,none⟩=some (.slice ak nk ck)∧w.cell? ⟨bb,off+k * 3+2,none⟩=some (.slice bk mk dk)):=hd_ ⟨e0,e1,e2⟩
   clear hok e0 e1 e2
   have hki:(k:Int) < (n:Int):=by omega
   obtain⟨e0,e1,e2⟩:=aq_ HE.out HB.out
   go_wp2_with fail
   refine (law09_of sk ak nk ck bk mk dk _).mono ?_
   rintro e w4 ⟨rfl,b4⟩
   clear e0 e1 e2
   replace HB:=bt_ HB b4
   replace HO:=HO.l_ b4
   have hsz4:w.heap.size≤w4.heap.size:=Nat.le_trans hsz b4.size
   clear b4 hsz
   unfold frV
   have ba:=aa_ w4 (.cells #[.bool sk,.slice ak nk ck,.slice bk mk dk] 27)
   have HOa:=HO.l_ ba
   have HBa:=hd_ (ab_ HB.out ba)
   have HYa:=hd_ (HY.out.later HBa.out)
   clear ba HO HB
   go_wp2_with (at_builtin;refine gs_ _ rfl _ _ 22 rfl w.heap.size 27 i0 Tryz.underlying22 hi hz0 hz1 hz2 _ (L.take k) rfl HOa.out ⟨w4.heap.size,0,none⟩ ⟨sk,ak,nk,ck,lak,bk,mk,dk,lbk⟩ rfl (jw_ _ _ _) HYa.out hkL (by rw[al_];omega) ?_)
   intro mv5 w5 hrow hgrow hbase hcl
   have HO5:Hid (Cop w5 w.heap.size 27 mv5 (L.take (k+1))):=hd_ (by rw[HT.out];exact hrow)
   have HB5:=hd_ (HBa.out.grown hgrow (by rw[al_];omega) hbase)
   have hsz5:w.heap.size≤w5.heap.size:=Nat.le_trans (by rw[al_];omega) hgrow.size
   clear hrow hgrow hbase hcl HOa HBa HYa HT HE HY hsz4
   go_wp2
   go_roundw
   case rel=>exact⟨k+1,by omega,by go_num,HO5,HB5,hsz5⟩
   case measure=>simp[intOf];omega
  ·obtain rfl:k=n:=by omega
   have HF:=hd_ (HO.out.whole HLl.out)
   obtain⟨a9,c9,rfl,h9⟩:=HF.out.out
   rw[HLl.out] at h9 ⊢
   have HF9:=hd_ h9
   clear h9 HF HO
   go_wp2
   go_ret
   exact⟨a9,c9,rfl,HF9.out,HB.out⟩
theorem g8_(a0:OA_)(n0 c0:Nat)(L0:List Fx)(w:World)(h0:Fxs w a0 n0 c0 L0)(hn:n0≤1000)(ht0:thin 2000000000 L0) :
 Calls Tryz.prog 50 #[.slice a0 n0 c0] w (b8_ (fqs L0) w):=by
 have HK0:=hd_ h0
 have HLl0:=hd_ h0.len
 have hbd0:=h0.bound
 have HTh0:=hd_ ht0
 clear h0 ht0
 have HTL:Hid ((fqs L0).length=n0):=hd_ (by rw[av_,HLl0.out])
 obtain⟨T,hTe⟩:∃T,fqs L0=T:=⟨_,rfl⟩
 have ET:=hd_ hTe
 rw[hTe] at HTL ⊢
 clear hTe
 obtain⟨i0,hi,hz0,hz1,hz2⟩:=info_parts eb_
 go_enter Tryz.func50,Tryz.ntmps50
 skip
 go_wp2
 go_loopw [3,4] (fun mv iv wr=>∃k:Nat,k≤n0∧iv=.int .i64 (k:Int)∧Hid (Row wr (w.heap.size) 27 mv (T.take k))∧Hid (Below w.heap.size w wr)∧w.heap.size≤wr.heap.size) (fun _ iv _=>n0 - (intOf iv).toNat)
 case atStart=>exact⟨0,by omega,rfl,hd_ (Row.nil _ _ _),hd_ (Below.refl _ _),by omega⟩
 case round=>
  obtain⟨k,hk,rfl,HO,HB,hsz⟩:=hrel
  by_cases hlt:k < n0
  ·have hkT:k < T.length:=by rw[HTL.out];exact hlt
   have HT:Hid (T.take (k+1)=T.take k ++ [T.getD k 0]):=hd_ (gk_ hkT)
   have HTv:Hid (T.getD k 0=(L0.getD k Fx.zero).q):=hd_ (by rw[←ET.out];exact di_ (by rw[HLl0.out];exact hlt))
   have hkL:(T.take k).length≤1000000:=by rw[cq_ (Nat.le_of_lt hkT)];omega
   obtain⟨bb0,off0,rfl,e00,e10,e20,hok0⟩:=HK0.out.at hlt
   have hth0:=HTh0.out _ (es_ (L:=L0) (k:=k) (by rw[HLl0.out];exact hlt))
   generalize L0.getD k Fx.zero=xk0 at *
   obtain⟨sk0,ak0,nk0,ck0,lak0,bk0,mk0,dk0,lbk0⟩:=xk0
   obtain⟨hA0,hB0⟩:=hok0
   simp only at e00 e10 e20 hA0 hB0 hth0
   obtain⟨hth0,htj0⟩:=hth0
   have HE0:Hid (w.cell? ⟨bb0,off0+k * 3,none⟩=some (.bool (sk0))∧w.cell? ⟨bb0,off0+k * 3+1,none⟩=some (.slice ak0 nk0 ck0)∧w.cell? ⟨bb0,off0+k * 3+2,none⟩=some (.slice bk0 mk0 dk0)):=hd_ ⟨e00,e10,e20⟩
   have AK0:=hd_ hA0
   have BK0:=hd_ hB0
   clear hA0 hB0 e00 e10 e20
   generalize T.getD k 0=tk at *
   replace HTv:Hid (tk=qval sk0 (val lak0) (val lbk0)):=HTv
   have hki:(k:Int) < (n0:Int):=by omega
   obtain⟨e00,e10,e20⟩:=aq_ HE0.out HB.out
   go_wp2_with fail
   refine (rh_ _ (qval sk0 (val lak0) (val lbk0)) _ (Fr.of (AK0.out.later HB.out) (BK0.out.later HB.out) (by omega) (by omega) rfl)).mono ?_
   rintro e w4 ⟨a4,n4,c4,b4,m4,d4,rfl,h4,g4,bw⟩
   rw[←HTv.out] at h4 g4 ⊢
   clear e00 e10 e20
   replace HB:=bt_ HB bw
   replace HO:=HO.l_ bw
   have hsz4:w.heap.size≤w4.heap.size:=Nat.le_trans hsz bw.size
   have HA4:=hd_ h4
   have HB4:=hd_ g4
   clear bw hsz h4 g4
   unfold frV
   have ba:=aa_ w4 (.cells #[.bool (zneg tk.num),.slice a4 n4 c4,.slice b4 m4 d4] 27)
   have HOa:=HO.l_ ba
   have HBa:=hd_ (ab_ HB.out ba)
   have HAa:=HA4.l_ ba
   have HCa:=HB4.l_ ba
   clear ba HO HB HA4 HB4
   go_wp2_with (at_builtin;refine c4_ _ rfl _ _ 22 rfl w.heap.size 27 i0 Tryz.underlying22 hi hz0 hz1 hz2 _ (T.take k) rfl HOa.out ⟨w4.heap.size,0,none⟩ tk a4 n4 c4 b4 m4 d4 rfl (gy_ _ _ _ _ _ _ _ _ _) HAa.out HCa.out hkL (by rw[al_];omega) ?_)
   intro mv5 w5 hrow hgrow hbase hcl
   have HO5:Hid (Row w5 w.heap.size 27 mv5 (T.take (k+1))):=hd_ (by rw[HT.out];exact hrow)
   have HB5:=hd_ (HBa.out.grown hgrow (by rw[al_];omega) hbase)
   have hsz5:w.heap.size≤w5.heap.size:=Nat.le_trans (by rw[al_];omega) hgrow.size
   clear hrow hgrow hbase hcl HOa HBa HAa HCa HT hsz4
   go_wp2
   go_roundw
   case rel=>exact⟨k+1,by omega,by go_num,HO5,HB5,hsz5⟩
   case measure=>simp[intOf];omega
  ·obtain rfl:k=n0:=by omega
   have HF:=hd_ (HO.out.whole HTL.out)
   obtain⟨a9,c9,rfl,h9⟩:=HF.out.out
   rw[HTL.out] at h9 ⊢
   have HF9:=hd_ h9
   clear h9 HF HO
   go_wp2
   go_ret
   exact⟨a9,_,c9,rfl,HF9.out,HB.out⟩
theorem kq_(v:Value)(z:Rat)(a0:OA_)(n0 c0:Nat)(qs0:LR_)(w:World)(hv:Rt w v z 2000000000)(h0:Rw w a0 n0 c0 qs0)(hn:n0≤1000)(ht0:∀q∈qs0,qlen q≤2000000000) :
 Calls Tryz.prog 100 #[v,.slice a0 n0 c0] w (b8_ (ag_ z qs0) w):=by
 have HK0:=hd_ h0
 have HLl0:=hd_ h0.len
 have hbd0:=h0.bound
 have HTh0:=hd_ ht0
 clear h0 ht0
 obtain⟨va,vn,vc,vb,vm,vd,rfl,hv1,hv2,hv3,hv4⟩:=hv
 have HV1:=hd_ hv1
 have HV2:=hd_ hv2
 clear hv1 hv2
 have HTL:Hid ((ag_ z qs0).length=n0):=hd_ (by rw[be_,HLl0.out])
 obtain⟨T,hTe⟩:∃T,ag_ z qs0=T:=⟨_,rfl⟩
 have ET:=hd_ hTe
 rw[hTe] at HTL ⊢
 clear hTe
 obtain⟨i0,hi,hz0,hz1,hz2⟩:=info_parts eb_
 go_enter Tryz.func100,Tryz.ntmps100
 unfold frV
 go_wp2
 go_loopw [5,6] (fun mv iv wr=>∃k:Nat,k≤n0∧iv=.int .i64 (k:Int)∧Hid (Row wr (w.heap.size+1) 27 mv (T.take k))∧Hid (Below w.heap.size w wr)∧w.heap.size+1≤wr.heap.size∧Hid (wr.heap[w.heap.size]? = some (.cells #[.bool (zneg z.num),.slice va vn vc,.slice vb vm vd] 27 (0,0)))) (fun _ iv _=>n0 - (intOf iv).toNat)
 case atStart=>exact⟨0,by omega,rfl,hd_ (Row.nil _ _ _),hd_ (aa_ _ _),by rw[al_];omega,hd_ (ai_ _ _ _)⟩
 case round=>
  obtain⟨k,hk,rfl,HO,HB,hsz,X0⟩:=hrel
  by_cases hlt:k < n0
  ·have hkT:k < T.length:=by rw[HTL.out];exact hlt
   have HT:Hid (T.take (k+1)=T.take k ++ [T.getD k 0]):=hd_ (gk_ hkT)
   have HTv:Hid (T.getD k 0=z * qs0.getD k 0):=hd_ (by rw[←ET.out];exact ij_ (by rw[HLl0.out];exact hlt))
   have hkL:(T.take k).length≤1000000:=by rw[cq_ (Nat.le_of_lt hkT)];omega
   obtain⟨bb0,off0,rfl,ak0,nk0,ck0,bk0,mk0,dk0,⟨e00,e10,e20⟩,hA0,hB0⟩:=HK0.out.at hlt
   have hth0:nk0≤2000000000:=by rw[←hA0.len];exact Nat.le_trans (a8_ _) (HTh0.out _ (f4_ (by rw[HLl0.out];exact hlt)))
   have htj0:mk0≤2000000000:=by rw[←hB0.len];exact Nat.le_trans (a7_ _) (HTh0.out _ (f4_ (by rw[HLl0.out];exact hlt)))
   generalize qs0.getD k 0=qk0 at *
   have HE0:Hid (w.cell? ⟨bb0,off0+k * 3,none⟩=some (.bool (zneg qk0.num))∧w.cell? ⟨bb0,off0+k * 3+1,none⟩=some (.slice ak0 nk0 ck0)∧w.cell? ⟨bb0,off0+k * 3+2,none⟩=some (.slice bk0 mk0 dk0)):=hd_ ⟨e00,e10,e20⟩
   have AK0:=hd_ hA0
   have BK0:=hd_ hB0
   clear hA0 hB0 e00 e10 e20
   generalize T.getD k 0=tk at *
   have hki:(k:Int) < (n0:Int):=by omega
   obtain⟨e00,e10,e20⟩:=aq_ HE0.out HB.out
   obtain⟨x0,x1,x2⟩:=as_ X0.out
   go_wp2
   have b0:Below wr.heap.size wr wr.drew:=(Below.refl _ _).drew
   replace HB:=bt_ HB b0
   replace HO:=HO.l_ b0
   replace X0:=bl_ X0 b0
   replace hsz:=Nat.le_trans hsz b0.size
   clear e00 e10 e20 x0 x1 x2 b0
   obtain⟨e00,e10,e20⟩:=aq_ HE0.out HB.out
   obtain⟨x0,x1,x2⟩:=as_ X0.out
   go_region_law (first
    | (refine fw_ rfl _ _ 22 rfl (w.heap.size+1) 27 i0 Tryz.underlying22 hi hz0 hz1 hz2 _ (T.take k) rfl HOa.out _ tk a4 n4 c4 b4 m4 d4 rfl (gy_ _ _ _ _ _ _ _ _ _) HAa.out HCa.out hkL (by rw[al_];omega) ?_;intro mv5 w5 hrow hgrow hbase hcl)
    | (go_simp;go_at_call 114;refine (mm_ _ _ z qk0 _ (Rt.of (HV1.out.later HB.out) (HV2.out.later HB.out) (by omega) (by omega)) (Rt.of (AK0.out.later HB.out) (BK0.out.later HB.out) (by omega) (by omega))).mono ?_;rintro e w4 ⟨a4,n4,c4,b4,m4,d4,rfl,h4,g4,bw⟩;rw[←HTv.out] at h4 g4 ⊢;clear e00 e10 e20 x0 x1 x2;replace HB:=bt_ HB bw;replace HO:=HO.l_ bw;replace X0:=bl_ X0 bw;have hsz4:w.heap.size+1≤w4.heap.size:=Nat.le_trans hsz bw.size;have HA4:=hd_ h4;have HB4:=hd_ g4;clear bw hsz h4 g4;unfold frV;have ba:=aa_ w4 (.cells #[.bool (zneg tk.num),.slice a4 n4 c4,.slice b4 m4 d4] 27);have HOa:=HO.l_ ba;have HBa:=hd_ (ab_ HB.out ba);have Xa:=hd_ (ac_ X0.out ba);have HAa:=HA4.l_ ba;have HCa:=HB4.l_ ba;clear ba HO HB HA4 HB4 X0))
   all_goals (
    have HO5:Hid (Row w5 (w.heap.size+1) 27 mv5 (T.take (k+1))):=hd_ (by rw[HT.out];exact hrow)
    have X5:=hd_ ((hgrow.block w.heap.size (by rw[al_];omega) (fun e2=>by have:=hbase _ e2.symm;omega)).trans Xa.out)
    clear Xa
    have HB5:=hd_ (HBa.out.grown hgrow (by rw[al_];omega) (fun g hg=>by have:=hbase g hg;omega))
    have hsz5:w.heap.size+1≤w5.heap.size:=Nat.le_trans (by rw[al_];omega) hgrow.size
    clear hrow hgrow hbase hcl HOa HBa HAa HCa HT hsz4
    go_wp2
    go_roundw
    case rel=>exact⟨k+1,by omega,by go_num,HO5,HB5,hsz5,X5⟩
    case measure=>simp[intOf];omega)
  ·obtain rfl:k=n0:=by omega
   have HF:=hd_ (HO.out.whole HTL.out)
   obtain⟨a9,c9,rfl,h9⟩:=HF.out.out
   rw[HTL.out] at h9 ⊢
   have HF9:=hd_ h9
   clear h9 HF HO
   go_wp2
   go_ret
   exact⟨a9,_,c9,rfl,HF9.out,HB.out⟩
end Go.Proofs.YtocebjbjnfammaaGreat
