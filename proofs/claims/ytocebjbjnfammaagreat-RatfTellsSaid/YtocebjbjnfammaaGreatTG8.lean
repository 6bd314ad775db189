import Derived.Test.YtocebjbjnfammaaGreatTG7
import Derived.Test.YtocebjbjnfammaaGreatTG6
import Derived.Test.YtocebjbjnfammaaGreatTG3
import Derived.Test.YtocebjbjnfammaaGreatTG2
import Derived.Test.YtocebjbjnfammaaGreatTG5
import Derived.Deep.RegionHeld3
import Derived.Deep.RegionLaw
import Derived.Test.YtocebjbjnfammaaGreatTG1
set_option maxRecDepth 4096
set_option maxHeartbeats 16000000
namespace Go.Proofs.YtocebjbjnfammaaGreat
open Go.RowKit
def pw (t:Nat):Nat:=4294967296 ^ t
theorem ey_(a b:Nat):pw (a+b)=pw a * pw b:=Nat.pow_add _ _ _
theorem ch_{a b:Nat}(h:a≤b):pw a≤pw b:=Nat.pow_le_pow_right (by decide) h
theorem fi_(a:Nat):0 < pw a:=Nat.pow_pos (by decide)
theorem oo_:pw 1=4294967296:=by decide
theorem pw_lt(a:Nat):pw a < pw (a+1):=Nat.pow_lt_pow_right (by decide) (Nat.lt_succ_self a)
theorem dp_{z:Int}{n t:Nat}(hz:z.natAbs≤pw t)(hn:n≤pw t):qlen ((z:Rat) / ((n:Nat):Rat))≤t+2:=by
 rw[←Rat.mkRat_eq_div]
 have h1:=kc_ z n
 have h2:=pw_lt t
 have h3:(dg z.natAbs).length≤t+1:=bn_ (Nat.lt_of_le_of_lt hz h2)
 have h4:(dg n).length≤t+1:=bn_ (Nat.lt_of_le_of_lt hn h2)
 omega
theorem de_{z y:Int}{t:Nat}(hz:z.natAbs≤pw t)(hy:y.natAbs≤pw t):qlen ((z:Rat) / (y:Rat))≤t+2:=by
 rcases Int.natAbs_eq y with e | e
 ·rw[e]
  exact dp_ hz hy
 ·have h1:(z:Rat) / (y:Rat)=((-z:Int):Rat) / ((y.natAbs:Nat):Rat):=by
   have h2:(y:Rat) = -((y.natAbs:Nat):Rat):=by
    rw[←Rat.intCast_natCast,←Rat.intCast_neg,←e]
   by_cases hy0:y=0
   ·rw[hy0]
    show (z:Rat) / 0=((-z:Int):Rat) / ((0:Nat):Rat)
    show (z:Rat) / 0=((-z:Int):Rat) / 0
    rw[Rat.div_def,Rat.div_def,Rat.inv_zero];grind
   ·have hn:((y.natAbs:Nat):Rat)≠0:=fun e2=>by
     have e3:y.natAbs=0:=Rat.natCast_inj.1 (e2.trans rfl)
     exact hy0 (Int.natAbs_eq_zero.1 e3)
    have hyn:(y:Rat)≠0:=fun e2=>hy0 (Rat.intCast_inj.1 e2)
    have g1:(z:Rat) / (y:Rat) * (y:Rat)=(z:Rat):=Rat.div_mul_cancel hyn
    have g2:((-z:Int):Rat) / ((y.natAbs:Nat):Rat) * ((y.natAbs:Nat):Rat)=((-z:Int):Rat):=Rat.div_mul_cancel hn
    rw[Rat.intCast_neg] at g2 ⊢
    generalize (z:Rat) / (y:Rat)=p at *
    generalize -(z:Rat) / ((y.natAbs:Nat):Rat)=r at *
    have g3:((y.natAbs:Nat):Rat) * (p - r)=0:=by rw[h2] at g1;grind
    rcases Rat.mul_eq_zero.1 g3 with g | g
    ·exact absurd g hn
    ·grind
  rw[h1]
  exact dp_ (by omega) hy
theorem num_lt{q:Rat}{N:Nat}(h:qlen q≤N):q.num.natAbs≤pw N:=Nat.le_of_lt (dg_length_pow.1 (Nat.le_trans (a5_ q) h))
theorem den_lt{q:Rat}{N:Nat}(h:qlen q≤N):q.den≤pw N:=Nat.le_of_lt (dg_length_pow.1 (Nat.le_trans (a4_ q) h))
theorem den_mul(q:Rat):((q.den:Nat):Rat) * q=(q.num:Rat):=by
 have h:q=(q.num:Rat) / ((q.den:Nat):Rat):=by rw[←Rat.mkRat_eq_div,Rat.mkRat_self]
 have hd:((q.den:Nat):Rat)≠0:=fun e=>q.den_nz (Rat.natCast_inj.1 e)
 rw[Rat.mul_comm]
 have h2:(q.num:Rat) / ((q.den:Nat):Rat) * ((q.den:Nat):Rat)=(q.num:Rat):=Rat.div_mul_cancel hd
 rw[←h] at h2
 exact h2
theorem ints_of{N:Nat}:∀(l:LR_),(∀q∈l,qlen q≤N)→∃c:Nat,0 < c∧c≤pw (N * l.length)∧Ints (ag_ ((c:Nat):Rat) l) (pw (N * l.length))
 | [],_=>⟨1,by decide,Nat.le_refl _,fun i=>⟨0,rfl,Nat.zero_le _⟩⟩
 | x :: l,h=>by
   obtain⟨c,h1,h2,h3⟩:=ints_of l (fun q hq=>h q (List.mem_cons_of_mem _ hq))
   have hx:=h x (List.mem_cons_self ..)
   have e:pw (N * (x :: l).length)=pw N * pw (N * l.length):=by rw[List.length_cons,Nat.mul_add,Nat.mul_one,Nat.add_comm,ey_]
   refine ⟨x.den * c,Nat.mul_pos x.den_pos h1,?_,fun i=>?_⟩
   ·rw[e];exact Nat.mul_le_mul (den_lt hx) h2
   ·rw[aj_,Rat.natCast_mul,e]
    cases i with
    | zero=>
      refine ⟨x.num * (c:Int),?_,?_⟩
      ·have:=den_mul x
       rw[f4_,Rat.intCast_mul,Rat.intCast_natCast,←this];grind
      ·rw[Int.natAbs_mul,Int.natAbs_natCast]
       exact Nat.mul_le_mul (num_lt hx) h2
    | succ i=>
      obtain⟨z,g1,g2⟩:=h3 i
      refine ⟨(x.den:Int) * z,?_,?_⟩
      ·rw[aj_] at g1
       rw[b1_,Rat.intCast_mul,Rat.intCast_natCast,←g1];grind
      ·rw[Int.natAbs_mul,Int.natAbs_natCast]
       exact Nat.mul_le_mul (den_lt hx) g2
structure DivZ (A B Q R:LR_) (k:Rat) (n s S M t:Nat):Prop where
 sum:peq A (padd (pmul Q B) R)
 right:ah_ R=R
 way:t+R.length≤n
 most:t≤n+1 - B.length
 form:∃(y:Int) (T:LR_),y≠0∧y.natAbs≤pw (t * S)∧Ints T (pw (s+t * (S+1)))∧peq (ag_ (y:Rat) R) (ag_ k T)
 qs:∀q∈Q,qlen q≤M
 free:∀i,i+B.length≤R.length→co Q i=0
theorem DivZ.start{A B R P:List Rat}{k:Rat}{n s S M:Nat}(hR:ah_ A=R)(hn:R.length≤n)(hP:Ints P (pw s))(hA:peq A (ag_ k P)):DivZ A B [] R k n s S M 0:=by
 subst hR
 refine ⟨fun i=>by rw[a8_,pmul,d8_,au_];grind,a7_ A,by omega,by omega,⟨1,P,by decide,?_,?_,fun i=>?_⟩,fun q hq=>by simp at hq,fun _ _=>rfl⟩
 ·rw[Nat.zero_mul];exact Nat.le_refl _
 ·rw[Nat.zero_mul];exact hP
 ·rw[aj_,au_,hA i]
  show (1:Rat) * _=_
  rw[Rat.one_mul]
structure DivL (B Z:LR_) (l:Rat) (z:Int) (S:Nat):Prop where
 right:ah_ B=B
 pos:0 < B.length
 ints:Ints Z (pw S)
 form:peq B (ag_ l Z)
 top:co Z (B.length - 1)=(z:Rat)
 nz:z≠0
 zle:z.natAbs≤pw S
 lnz:l≠0
theorem DivL.of{B Z:List Rat}{l:Rat}{S:Nat}(hB:ah_ B=B)(h0:0 < B.length)(hZ:Ints Z (pw S))(h:peq B (ag_ l Z)):∃z,DivL B Z l z S:=by
 obtain⟨z,h1,h2⟩:=hZ (B.length - 1)
 have h3:=gf_ hB h0
 have h4:=h (B.length - 1)
 rw[aj_,h1] at h4
 have h5:l * (z:Rat)≠0:=fun e=>h3 (h4.trans e)
 refine ⟨z,hB,h0,hZ,h,h1,fun e=>h5 (by rw[e];show l * 0=0;grind),h2,fun e=>h5 (by rw[e];grind)⟩
theorem ex_{z:Int}(h:z≠0):(z:Rat)≠0:=fun e=>h (Rat.intCast_inj.1 e)
theorem DivZ.rlen{A B Q R:List Rat}{k:Rat}{n s S M t:Nat}(h:DivZ A B Q R k n s S M t):∀q∈R,qlen q≤qlen k+(s+t * (S+1))+3:=by
 obtain⟨y,T,h1,h2,h3,h4⟩:=h.form
 refine co_ fun i=>?_
 obtain⟨z,g1,g2⟩:=h3 i
 have e:=h4 i
 rw[aj_,aj_,g1] at e
 have hy:=ex_ h1
 have e2:co R i=k * ((z:Rat) / (y:Rat)):=by
  have e3:(z:Rat) / (y:Rat) * (y:Rat)=(z:Rat):=Rat.div_mul_cancel hy
  have e4:(y:Rat) * (co R i - k * ((z:Rat) / (y:Rat)))=0:=by grind
  rcases Rat.mul_eq_zero.1 e4 with g | g
  ·exact absurd g hy
  ·grind
 rw[e2]
 have q1:=ci_ k ((z:Rat) / (y:Rat))
 have q2:=de_ (t:=s+t * (S+1)) g2 (Nat.le_trans h2 (ch_ (by rw[Nat.mul_add];omega)))
 omega
theorem DivZ.clen{A B Q R Z:List Rat}{k l:Rat}{z:Int}{n s S M t:Nat}(h:DivZ A B Q R k n s S M t)(hl:DivL B Z l z S):qlen (R.getD (R.length - 1) 0 / B.getD (B.length - 1) 0)≤qlen k+qlen l+(s+(t+1) * (S+1))+4:=by
 obtain⟨y,T,h1,h2,h3,h4⟩:=h.form
 obtain⟨x,g1,g2⟩:=h3 (R.length - 1)
 have e:=h4 (R.length - 1)
 rw[aj_,aj_,g1] at e
 have eb:=hl.form (B.length - 1)
 rw[aj_,hl.top] at eb
 have hy:=ex_ h1
 have hz:=ex_ hl.nz
 have hlz:=hl.lnz
 have hyz:y * z≠0:=fun e=>by rcases Int.mul_eq_zero.1 e with g | g;exact h1 g;exact hl.nz g
 have e2:R.getD (R.length - 1) 0 / B.getD (B.length - 1) 0=k / l * ((x:Rat) / ((y * z:Int):Rat)):=by
  have b0:B.getD (B.length - 1) 0=l * (z:Rat):=eb
  have r0:(y:Rat) * R.getD (R.length - 1) 0=k * (x:Rat):=e
  rw[b0,Rat.intCast_mul,Rat.div_def,Rat.div_def,Rat.div_def]
  have i1:(l * (z:Rat)) * (l * (z:Rat))⁻¹=1:=Rat.mul_inv_cancel _ (fun e=>by rcases Rat.mul_eq_zero.1 e with g | g;exact hlz g;exact hz g)
  have i2:l * l⁻¹=1:=Rat.mul_inv_cancel _ hlz
  have i3:((y:Rat) * (z:Rat)) * ((y:Rat) * (z:Rat))⁻¹=1:=Rat.mul_inv_cancel _ (fun e=>by rcases Rat.mul_eq_zero.1 e with g | g;exact hy g;exact hz g)
  generalize (l * (z:Rat))⁻¹=u at *
  generalize l⁻¹=l' at *
  generalize ((y:Rat) * (z:Rat))⁻¹=w at *
  generalize R.getD (R.length - 1) 0=r at *
  have e5:l * (z:Rat) * (y:Rat) * (r * u - k * l' * ((x:Rat) * w))=0:=by grind
  rcases Rat.mul_eq_zero.1 e5 with g | g
  ·rcases Rat.mul_eq_zero.1 g with g | g
   ·rcases Rat.mul_eq_zero.1 g with g | g
    ·exact absurd g hlz
    ·exact absurd g hz
   ·exact absurd g hy
  ·grind
 rw[e2]
 have q1:=ci_ (k / l) ((x:Rat) / ((y * z:Int):Rat))
 have q2:=lp_ k l
 have q3:=de_ (z:=x) (y:=y * z) (t:=s+(t+1) * (S+1)) (Nat.le_trans g2 (ch_ (by rw[Nat.add_mul];omega))) (by
  rw[Int.natAbs_mul]
  refine Nat.le_trans (Nat.mul_le_mul h2 hl.zle) ?_
  rw[←ey_]
  exact ch_ (by rw[Nat.add_mul,Nat.mul_add,Nat.one_mul];omega))
 omega
theorem two_pw(a:Nat):pw a+pw a≤pw (a+1):=by
 rw[ey_,oo_]
 omega
theorem DivZ.step{A B Q R Z Q' X R':List Rat}{k l c:Rat}{z:Int}{n s S M t:Nat}(h:DivZ A B Q R k n s S M t)(hl:DivL B Z l z S)(hle:B.length≤R.length)(hM:qlen k+qlen l+(s+(n+1 - B.length) * (S+1))+4≤M)
 (hc:c=R.getD (R.length - 1) 0 / B.getD (B.length - 1) 0) (hQ:peq Q' (padd Q (shot (R.length - B.length) c))) (hX:peq X (pmul (shot (R.length - B.length) c) B)) (hR:peq R' (psub R X)) (hr:ah_ R'=R') :
 DivZ A B Q' R' k n s S M (t+1)∧R'.length < R.length:=by
 obtain⟨g1,g2⟩:=lh_ hl.right hl.pos hle h.sum hc hQ hX hR hr
 have hw:=h.way
 have hp:=hl.pos
 have hcl:qlen c≤M:=by
  rw[hc]
  refine Nat.le_trans (h.clen hl) (Nat.le_trans ?_ hM)
  have:(t+1) * (S+1)≤(n+1 - B.length) * (S+1):=Nat.mul_le_mul_right _ (by omega)
  omega
 refine ⟨⟨g1,hr,by omega,by omega,?_,co_ fun i=>?_,fun i hi=>?_⟩,g2⟩
 ·obtain⟨y,T,h1,h2,h3,h4⟩:=h.form
  obtain⟨x,x1,x2⟩:=h3 (R.length - 1)
  refine ⟨z * y,psub (ag_ (z:Rat) T) (ag_ (x:Rat) (pmul (shot (R.length - B.length) 1) Z)),fun e=>by rcases Int.mul_eq_zero.1 e with g | g;exact hl.nz g;exact h1 g,?_,fun i=>?_,fun i=>?_⟩
  ·rw[Int.natAbs_mul]
   refine Nat.le_trans (Nat.mul_le_mul hl.zle h2) ?_
   rw[←ey_]
   exact ch_ (by rw[Nat.add_mul];omega)
  ·obtain⟨u,u1,u2⟩:=h3 i
   have hb:pw S * pw (s+t * (S+1))+pw S * pw (s+t * (S+1))≤pw (s+(t+1) * (S+1)):=by
    rw[←ey_]
    refine Nat.le_trans (two_pw _) (ch_ ?_)
    rw[Nat.add_mul];omega
   by_cases hi:R.length - B.length≤i
   ·obtain⟨v,v1,v2⟩:=hl.ints (i - (R.length - B.length))
    refine ⟨z * u - x * v,?_,?_⟩
    ·rw[d6_,aj_,aj_,dv_,if_pos hi,u1,v1,Rat.intCast_sub,Rat.intCast_mul,Rat.intCast_mul,Rat.one_mul]
    ·have a1:(z * u).natAbs≤pw S * pw (s+t * (S+1)):=by rw[Int.natAbs_mul];exact Nat.mul_le_mul hl.zle u2
     have a2:(x * v).natAbs≤pw S * pw (s+t * (S+1)):=by rw[Int.natAbs_mul,Nat.mul_comm];exact Nat.mul_le_mul v2 x2
     omega
   ·refine ⟨z * u,?_,?_⟩
    ·rw[d6_,aj_,aj_,dv_,if_neg hi,u1,Rat.intCast_mul];grind
    ·have a1:(z * u).natAbs≤pw S * pw (s+t * (S+1)):=by rw[Int.natAbs_mul];exact Nat.mul_le_mul hl.zle u2
     omega
  ·have e:=h4 i
   have et:=h4 (R.length - 1)
   have eb:=hl.form (B.length - 1)
   rw[aj_,aj_] at e et
   rw[aj_,hl.top] at eb
   rw[x1] at et
   have b0:B.getD (B.length - 1) 0=l * (z:Rat):=eb
   have r0:(y:Rat) * R.getD (R.length - 1) 0=k * (x:Rat):=et
   have bn:=gf_ hl.right hl.pos
   have c0:c * B.getD (B.length - 1) 0=R.getD (R.length - 1) 0:=by rw[hc];exact Rat.div_mul_cancel bn
   rw[b0] at c0
   rw[aj_,aj_,hR i,d6_,hX i,dv_,d6_,aj_,aj_,dv_,Rat.intCast_mul]
   generalize R.getD (R.length - 1) 0=rt at *
   split
   ·have ef:=hl.form (i - (R.length - B.length))
    rw[aj_] at ef
    rw[ef]
    grind
   ·grind
 ·rw[hQ i,a8_,e4_]
  by_cases h3:i=R.length - B.length
  ·rw[if_pos h3,h3,h.free _ (by omega),Rat.zero_add];exact hcl
  ·rw[if_neg h3,Rat.add_zero]
   rcases Nat.lt_or_ge i Q.length with h5 | h5
   ·exact h.qs _ (fq_ h5)
   ·rw[da_ h5,cw_];omega
 ·rw[hQ i,a8_,e4_,if_neg (by omega),h.free i (by omega)];grind
structure DivWay (A B:LR_) (K T:Nat) (I:List Rat→List Rat→Prop):Prop where
 start:I [] (ah_ A)
 step:∀{Q R Q' X R':List Rat} {c:Rat},I Q R→ah_ R=R→B.length≤R.length→c=R.getD (R.length - 1) 0 / B.getD (B.length - 1) 0→peq Q' (padd Q (shot (R.length - B.length) c))→peq X (pmul (shot (R.length - B.length) c) B)→peq R' (psub R X)→ah_ R'=R'→I Q' R'
 room:∀{Q R:List Rat},I Q R→(∀q∈R,qlen q≤T)∧∀q∈Q,qlen q≤T
 top:∀{Q R:List Rat},I Q R→ah_ R=R→B.length≤R.length→qlen (R.getD (R.length - 1) 0 / B.getD (B.length - 1) 0)+K+5≤T
structure GcdWay (A B:LR_) (T E:Nat) (J:List Rat→List Rat→Prop):Prop where
 start:J (ah_ A) (ah_ B)
 div:∀{x y:List Rat},J x y→ah_ x=x→ah_ y=y→0 < y.length→∃K I,(∀q∈y,qlen q≤K)∧(∀q∈x,qlen q≤T)∧DivWay x y K T I
 step:∀{x y q r:List Rat},J x y→ah_ x=x→ah_ y=y→0 < y.length→isDiv x y q r→ah_ r=r→J y r
 over:∀{x:List Rat},J x []→ah_ x=x→0 < x.length→qlen (1 / x.getD (x.length - 1) 0)≤T∧(∀q∈x,qlen q≤T)∧(∀q∈ah_ (ag_ (1 / x.getD (x.length - 1) 0) x),qlen q≤E)∧∃z:Int,z≠0∧z.natAbs≤pw E∧Ints (ag_ (z:Rat) (ah_ (ag_ (1 / x.getD (x.length - 1) 0) x))) (pw E)
theorem DivWay.new{A B P Z:List Rat}{k l:Rat}{z:Int}{n s S K M T:Nat}(hl:DivL B Z l z S)(hn:(ah_ A).length≤n)(hP:Ints P (pw s))(hA:peq A (ag_ k P))(hM:qlen k+qlen l+(s+(n+1 - B.length) * (S+1))+4≤M)(hT:M+K+5≤T) :
 DivWay A B K T (fun Q R=>∃t,DivZ A B Q R k n s S M t) where
 start:=⟨0,DivZ.start rfl hn hP hA⟩
 step:=fun ⟨t,h⟩ _ hle hc hQ hX hR hr=>⟨t+1,(h.step hl hle hM hc hQ hX hR hr).1⟩
 room:=fun ⟨t,h⟩=>by
  have hp:t * (S+1)≤(n+1 - B.length) * (S+1):=Nat.mul_le_mul_right _ h.most
  exact⟨fun q hq=>by have:=h.rlen q hq;omega,fun q hq=>by have:=h.qs q hq;omega⟩
 top:=fun ⟨t,h⟩ _ hle=>by
  have hw:=h.way
  have h0:=hl.pos
  have h1:=h.clen hl
  have hp:(t+1) * (S+1)≤(n+1 - B.length) * (S+1):=Nat.mul_le_mul_right _ (by omega)
  omega
theorem mi_{A B Z:List Rat}{k l:Rat}{z:Int}{n s S M:Nat}(hl:DivL B Z l z S)(hM:qlen k+qlen l+(s+(n+1 - B.length) * (S+1))+4≤M) :
 ∀(N:Nat) (Q R:LR_) (t:Nat),R.length≤N→DivZ A B Q R k n s S M t→∃Q' R' t',DivZ A B Q' R' k n s S M t'∧R'.length < B.length
 | 0,Q,R,t,hN,h=>⟨Q,R,t,h,by have:=hl.pos;omega⟩
 | N+1,Q,R,t,hN,h=>by
   by_cases hle:B.length≤R.length
   ·obtain⟨g1,g2⟩:=h.step hl hle hM rfl (peq.refl _) (peq.refl _) (au_ _) (a7_ _)
    exact mi_ hl hM N _ _ _ (by omega) g1
   ·exact⟨Q,R,t,h,by omega⟩
theorem Eu.congr{A B x y x' y':List Rat}(h:Eu A B x y)(hx:peq x x')(hy:peq y y'):Eu A B x' y':=by
 obtain⟨⟨ux,vx,uy,vy,e,he,h1,h2,h3,h4,h5,h6,h7⟩,hl,hs,hm⟩:=h
 have ex:=am_ hx
 have ey:=am_ hy
 exact⟨⟨ux,vx,uy,vy,e,he,hx.symm.trans h1,hy.symm.trans h2,h3,by omega,by omega,by omega,by omega⟩,by omega,by omega,hm⟩
def EuS (A B x y:LR_):Prop:=(peq x A∧peq y B)∨(peq x B∧peq y A∧plen A < plen B)∨Eu A B x y∨Eu B A x y
theorem EuS.step{A B x y q r:List Rat}(h:EuS A B x y)(hd:isDiv x y q r):EuS A B y r:=by
 rcases h with ⟨hx,hy⟩ | ⟨hx,hy,hl⟩ | h | h
 ·have hd':=hd.of hx hy (peq.refl q) (peq.refl r)
  by_cases hl:plen B≤plen A
  ·exact .inr (.inr (.inl ((Eu.start hd' hl).congr hy.symm (peq.refl r))))
  ·have h0:isDiv A B [] A:=⟨fun i=>by rw[a8_,pmul,d8_];grind,by omega⟩
   exact .inr (.inl ⟨hy,(hd'.same h0).2,by omega⟩)
 ·have hd':=hd.of hx hy (peq.refl q) (peq.refl r)
  exact .inr (.inr (.inr ((Eu.start hd' (by omega)).congr hy.symm (peq.refl r))))
 ·exact .inr (.inr (.inl (h.step hd)))
 ·exact .inr (.inr (.inr (h.step hd)))
theorem size_pw{s nn:Nat}(hn:2 * nn+1≤4294967296):nn * ((2 * (nn * pw s)+1) ^ nn * pw s)≤pw ((s+1) * (nn+1)):=by
 have h1:2 * (nn * pw s)+1≤pw (s+1):=by
  have h2:=fi_ s
  have h3:(2 * nn+1) * pw s≤pw 1 * pw s:=Nat.mul_le_mul_right _ (by rw[oo_];exact hn)
  rw[←ey_,Nat.add_comm 1 s,Nat.add_mul,Nat.mul_assoc,Nat.one_mul] at h3
  omega
 have h4:(2 * (nn * pw s)+1) ^ nn≤pw ((s+1) * nn):=by
  have h5:pw ((s+1) * nn)=pw (s+1) ^ nn:=Nat.pow_mul _ _ _
  rw[h5]
  exact Nat.pow_le_pow_left h1 nn
 have h6:nn≤pw 1:=by rw[oo_];omega
 refine Nat.le_trans (Nat.mul_le_mul h6 (Nat.mul_le_mul_right _ h4)) ?_
 rw[←ey_,←ey_]
 exact ch_ (by rw[Nat.mul_add];omega)
theorem EuS.small{A B x y:List Rat}{c:Rat}{s:Nat}(h:EuS A B x y)(hc:c≠0)(hA:Ints (ag_ c A) (pw s))(hB:Ints (ag_ c B) (pw s))(hn:2 * (plen A+plen B)+1≤4294967296) :
 ∃k:Rat,k≠0∧Ints (ag_ k y) (pw ((s+1) * (plen A+plen B+1))):=by
 have hs:pw s≤pw ((s+1) * (plen A+plen B+1)):=ch_ (by rw[Nat.mul_add];omega)
 rcases h with ⟨_,hy⟩ | ⟨_,hy,_⟩ | h | h
 ·exact⟨c,hc,(hB.mono hs).congr (bu_ c hy.symm)⟩
 ·exact⟨c,hc,(hA.mono hs).congr (bu_ c hy.symm)⟩
 ·obtain⟨k,h1,h2⟩:=h.size hc hA hB
  exact⟨k,h1,h2.mono (size_pw hn)⟩
 ·obtain⟨k,h1,h2⟩:=h.size hc hB hA
  rw[Nat.add_comm (plen B) (plen A)] at h2
  exact⟨k,h1,h2.mono (size_pw hn)⟩
structure GcdZ (A B x y:LR_) (S E:Nat):Prop where
 st:EuS A B x y
 xf:∃(k:Rat) (P:LR_),k≠0∧Ints P (pw S)∧peq x (ag_ k P)∧qlen k+(x.length+y.length) * (S+3)≤E
 yf:∃(l:Rat) (Z:LR_),l≠0∧Ints Z (pw S)∧peq y (ag_ l Z)∧qlen l+2 * y.length * (S+3)≤E
theorem d1_{c:Rat}(hc:c≠0)(a:LR_):peq a (ag_ (1 / c) (ag_ c a)):=fun i=>by
 rw[aj_,aj_]
 have:1 / c * c=1:=Rat.div_mul_cancel hc
 grind
theorem GcdZ.start{A B:List Rat}{c s S E:Nat}(hc:0 < c)(hcs:c≤pw s)(hA:Ints (ag_ ((c:Nat):Rat) A) (pw s))(hB:Ints (ag_ ((c:Nat):Rat) B) (pw s))(hS:s≤S){n:Nat}(hnA:plen A≤n)(hnB:plen B≤n)(hE:s+2+2 * n * (S+3)≤E):GcdZ A B (ah_ A) (ah_ B) S E:=by
 have hc0:((c:Nat):Rat)≠0:=fun e=>by have h9:c=0:=Rat.natCast_inj.1 (e.trans rfl);omega
 have hq:qlen (1 / ((c:Nat):Rat))≤s+2:=dp_ (z:=1) (t:=s) (by have:=fi_ s;omega) hcs
 have hk0:1 / ((c:Nat):Rat)≠0:=fun e=>by
  have h1:1 / ((c:Nat):Rat) * ((c:Nat):Rat)=1:=Rat.div_mul_cancel hc0
  rw[e,Rat.zero_mul] at h1
  exact absurd h1 (by decide)
 have e1:(ah_ A).length=plen A:=rfl
 have e2:(ah_ B).length=plen B:=rfl
 refine ⟨.inl ⟨au_ A,au_ B⟩,⟨_,_,hk0,hA.mono (ch_ hS),(au_ A).trans (d1_ hc0 A),?_⟩,⟨_,_,hk0,hB.mono (ch_ hS),(au_ B).trans (d1_ hc0 B),?_⟩⟩
 ·rw[e1,e2]
  have:(plen A+plen B) * (S+3)≤2 * n * (S+3):=Nat.mul_le_mul_right _ (by omega)
  omega
 ·rw[e2]
  have:2 * plen B * (S+3)≤2 * n * (S+3):=Nat.mul_le_mul_right _ (by omega)
  omega
theorem GcdZ.step{A B x y q r:List Rat}{c:Rat}{s S E:Nat}(h:GcdZ A B x y S E)(hc:c≠0)(hA:Ints (ag_ c A) (pw s))(hB:Ints (ag_ c B) (pw s))(hn:2 * (plen A+plen B)+1≤4294967296)(hS:(s+1) * (plen A+plen B+1)=S)
 (hx:ah_ x=x) (hy:ah_ y=y) (h0:0 < y.length) (hd:isDiv x y q r) (hr:ah_ r=r):GcdZ A B y r S E:=by
 obtain⟨k,P,k0,kP,kx,kE⟩:=h.xf
 obtain⟨l,Z,l0,lZ,ly,lE⟩:=h.yf
 obtain⟨z,hl⟩:=DivL.of hy h0 lZ ly
 have hst:=h.st.step hd
 have hm:r.length < y.length:=by
  have:=hd.2
  rwa [a0_ hr,a0_ hy] at this
 have hyE:qlen l+(y.length+r.length) * (S+3)≤E:=by
  have:(y.length+r.length) * (S+3)≤2 * y.length * (S+3):=Nat.mul_le_mul_right _ (by omega)
  omega
 refine ⟨hst,⟨l,Z,l0,lZ,ly,hyE⟩,?_⟩
 by_cases hr0:r.length=0
 ·refine ⟨1,[],by decide,fun i=>⟨0,rfl,Nat.zero_le _⟩,fun i=>?_,?_⟩
  ·rw[List.eq_nil_of_length_eq_zero hr0];rfl
  ·have h1:qlen 1≤2:=b4_ (z:=1) (by decide)
   have h2:1 * (S+3)≤2 * y.length * (S+3):=Nat.mul_le_mul_right _ (by omega)
   rw[hr0]
   omega
 ·obtain⟨Q',R',t,hf,hlt⟩:=mi_ (A:=x) (n:=x.length) (s:=S) (k:=k) hl (Nat.le_refl _) x.length [] (ah_ x) 0 (by rw[hx];exact Nat.le_refl _) (DivZ.start rfl (by rw[hx];exact Nat.le_refl _) kP kx)
  have hdv:isDiv x y Q' R':=⟨hf.sum,by rw[a0_ hf.right,a0_ hy];exact hlt⟩
  have hrR:r=R':=by rw[←hr,←hf.right];exact br_ (hd.same hdv).2
  subst hrR
  obtain⟨m,m0,mI⟩:=hst.small hc hA hB hn
  rw[hS] at mI
  obtain⟨w,w1,w2⟩:=mI (r.length - 1)
  obtain⟨y0,T,y1,y2,y3,y4⟩:=hf.form
  obtain⟨v,v1,v2⟩:=y3 (r.length - 1)
  have e1:=y4 (r.length - 1)
  rw[aj_,aj_,v1] at e1
  rw[aj_] at w1
  have hrt:=gf_ hr (by omega)
  have hco:co r (r.length - 1)=r.getD (r.length - 1) 0:=rfl
  rw[hco] at e1 w1
  have w0:w≠0:=fun e=>by
   rw[e] at w1
   rcases Rat.mul_eq_zero.1 (w1.trans rfl) with g | g
   ·exact m0 g
   ·exact hrt g
  have yw:y0 * w≠0:=fun e=>by rcases Int.mul_eq_zero.1 e with g | g;exact y1 g;exact w0 g
  have em:1 / m=k * ((v:Rat) / ((y0 * w:Int):Rat)):=by
   have f1:1 / m * m=1:=Rat.div_mul_cancel m0
   have f2:(v:Rat) / ((y0 * w:Int):Rat) * ((y0 * w:Int):Rat)=(v:Rat):=Rat.div_mul_cancel (ex_ yw)
   generalize (v:Rat) / ((y0 * w:Int):Rat)=f at *
   rw[Rat.intCast_mul] at f2
   generalize 1 / m=g at *
   generalize r.getD (r.length - 1) 0=rt at *
   have f3:(y0:Rat) * (w:Rat) * (g - k * f)=0:=by grind
   rcases Rat.mul_eq_zero.1 f3 with a | a
   ·rcases Rat.mul_eq_zero.1 a with a | a
    ·exact absurd a (ex_ y1)
    ·exact absurd a (ex_ w0)
   ·grind
  have hq:qlen (1 / m)≤qlen k+(S+t * (S+1))+3:=by
   rw[em]
   have q1:=ci_ k ((v:Rat) / ((y0 * w:Int):Rat))
   have q2:=de_ (z:=v) (y:=y0 * w) (t:=S+t * (S+1)) v2 (by
    rw[Int.natAbs_mul]
    refine Nat.le_trans (Nat.mul_le_mul y2 w2) ?_
    rw[←ey_]
    exact ch_ (by rw[Nat.mul_add];omega))
   omega
  refine ⟨1 / m,ag_ m r,fun e=>?_,mI,d1_ m0 r,?_⟩
  ·have f1:1 / m * m=1:=Rat.div_mul_cancel m0
   rw[e,Rat.zero_mul] at f1
   exact absurd f1 (by decide)
  ·have hw:=hf.way
   have p1:S+t * (S+1)+3≤(t+1) * (S+3):=by
    rw[Nat.add_mul,Nat.one_mul]
    have:t * (S+1)≤t * (S+3):=Nat.mul_le_mul_left t (by omega)
    omega
   have p2:(t+1) * (S+3)+2 * r.length * (S+3)≤(x.length+y.length) * (S+3):=by
    rw[←Nat.add_mul]
    exact Nat.mul_le_mul_right _ (by omega)
   omega
theorem GcdWay.new{A B:List Rat}{c s S E:Nat}(hc:0 < c)(hcs:c≤pw s)(hA:Ints (ag_ ((c:Nat):Rat) A) (pw s))(hB:Ints (ag_ ((c:Nat):Rat) B) (pw s))(hn:2 * (plen A+plen B)+1≤4294967296)(hS:(s+1) * (plen A+plen B+1)=S){n:Nat}(hnA:plen A≤n)(hnB:plen B≤n)(hE:s+2+2 * n * (S+3)≤E) :
 GcdWay A B (3 * E) (S+2) (fun x y=>GcdZ A B x y S E) where
 start:=GcdZ.start hc hcs hA hB (by rw[←hS,Nat.mul_add];omega) hnA hnB hE
 div:=fun {x y} h hx hy h0=>by
  obtain⟨k,P,k0,kP,kx,kE⟩:=h.xf
  obtain⟨l,Z,l0,lZ,ly,lE⟩:=h.yf
  obtain⟨z,hl⟩:=DivL.of hy h0 lZ ly
  have a1:x.length * (S+3)+y.length * (S+3)=(x.length+y.length) * (S+3):=(Nat.add_mul _ _ _).symm
  have a2:1 * (S+3)≤y.length * (S+3):=Nat.mul_le_mul_right _ h0
  have a3:2 * y.length * (S+3)=y.length * (S+3)+y.length * (S+3):=by rw[Nat.mul_assoc];omega
  have a4:(x.length+1 - y.length) * (S+1)≤x.length * (S+3):=Nat.mul_le_mul (by omega) (by omega)
  have hint:∀{k:Rat} {P:List Rat},Ints P (pw S)→∀i,qlen (co (ag_ k P) i)≤qlen k+S+3:=fun {k P} hP i=>by
   obtain⟨u,u1,u2⟩:=hP i
   rw[aj_,u1]
   have g1:=ci_ k (u:Rat)
   have g2:=de_ (z:=u) (y:=1) (t:=S) u2 (by have:=fi_ S;omega)
   have g3:(u:Rat) / ((1:Int):Rat)=(u:Rat):=by
    have:((1:Int):Rat)=1:=rfl
    rw[this,Rat.div_def,Rat.inv_eq_of_mul_eq_one (Rat.mul_one 1),Rat.mul_one]
   rw[g3] at g2
   omega
  refine ⟨qlen l+S+3,_,co_ fun i=>by rw[ly i];exact hint lZ i,co_ fun i=>?_,DivWay.new (n:=x.length) (s:=S) hl (by rw[hx];exact Nat.le_refl _) kP kx (Nat.le_refl _) ?_⟩
  ·rw[kx i]
   have:=hint (k:=k) kP i
   omega
  ·omega
 step:=fun {x y q r} h hx hy h0 hd hr=>by
  have hc0:((c:Nat):Rat)≠0:=fun e=>by have h9:c=0:=Rat.natCast_inj.1 (e.trans rfl);omega
  exact h.step hc0 hA hB hn hS hx hy h0 hd hr
 over:=fun {x} h hx h0=>by
  obtain⟨k,P,k0,kP,kx,kE⟩:=h.xf
  have a1:1 * (S+3)≤(x.length+([]:LR_).length) * (S+3):=Nat.mul_le_mul_right _ (by simp;omega)
  obtain⟨w,w1,w2⟩:=kP (x.length - 1)
  have e1:=kx (x.length - 1)
  rw[aj_,w1] at e1
  have hxt:=gf_ hx h0
  have ht:x.getD (x.length - 1) 0=k * (w:Rat):=e1
  have w0:w≠0:=fun e=>by
   rw[e] at ht
   exact hxt (ht.trans (Rat.mul_zero k))
  have hw:=ex_ w0
  have f0:k * (w:Rat)≠0:=fun e=>by rcases Rat.mul_eq_zero.1 e with g | g;exact k0 g;exact hw g
  have hone:∀{u:Int},u.natAbs≤pw S→qlen (k * (u:Rat))≤qlen k+S+3:=fun {u} u2=>by
   have g1:=ci_ k (u:Rat)
   have g2:=de_ (z:=u) (y:=1) (t:=S) u2 (by have:=fi_ S;omega)
   have g3:(u:Rat) / ((1:Int):Rat)=(u:Rat):=by
    have:((1:Int):Rat)=1:=rfl
    rw[this,Rat.div_def,Rat.inv_eq_of_mul_eq_one (Rat.mul_one 1),Rat.mul_one]
   rw[g3] at g2
   omega
  rw[ht]
  have hfi:∀(i:Nat) (u:Int),co P i=(u:Rat)→co (ah_ (ag_ (1 / (k * (w:Rat))) x)) i=(u:Rat) / (w:Rat):=fun i u u1=>by
   rw[fa_,aj_,kx i,aj_,u1]
   have f1:1 / (k * (w:Rat)) * (k * (w:Rat))=1:=Rat.div_mul_cancel f0
   have f2:(u:Rat) / (w:Rat) * (w:Rat)=(u:Rat):=Rat.div_mul_cancel hw
   generalize 1 / (k * (w:Rat))=a at *
   generalize (u:Rat) / (w:Rat)=b at *
   have f4:(w:Rat) * (a * (k * (u:Rat)) - b)=0:=by grind
   rcases Rat.mul_eq_zero.1 f4 with g | g
   ·exact absurd g hw
   ·grind
  refine ⟨?_,co_ fun i=>?_,co_ fun i=>?_,w,w0,Nat.le_trans w2 (ch_ (by omega)),fun i=>?_⟩
  ·have g1:=iq_ (k * (w:Rat))
   rw[Rat.div_def,Rat.one_mul]
   have g2:=hone w2
   omega
  ·obtain⟨u,u1,u2⟩:=kP i
   rw[kx i,aj_,u1]
   have:=hone u2
   omega
  ·obtain⟨u,u1,u2⟩:=kP i
   rw[hfi i u u1]
   exact de_ u2 w2
  ·obtain⟨u,u1,u2⟩:=kP i
   refine ⟨u,?_,Nat.le_trans u2 (ch_ (by omega))⟩
   rw[aj_,hfi i u u1,Rat.mul_comm]
   exact Rat.div_mul_cancel hw
def p3_ (A B:LR_) (K:Nat) (w:World) (e:Ending) (w':World):Prop:=∃(a:OA_) (n c:Nat) (g:LR_),e=.returned (.slice a n c)∧Rw w' a n c g∧isGcd A B g∧ah_ g=g∧(∀x∈g,qlen x≤K)∧(∃z:Int,z≠0∧z.natAbs≤pw K∧Ints (ag_ (z:Rat) g) (pw K))∧Below w.heap.size w w'
structure Rf (u v:LR_):Prop where
 ur:ah_ u=u
 vr:ah_ v=v
 v0:plen v≠0
 one:co v (plen v - 1)=1
 cop:∃s t,peq (padd (pmul s u) (pmul t v)) [1]
def isF (U V u v:LR_):Prop:=Rf u v∧(plen V=0→u=[])∧(plen V≠0→peq (pmul u V) (pmul v U))
theorem f2_{a b c:List Rat}(hc:plen c≠0)(h:peq (pmul a c) (pmul b c)):peq a b:=by
 have h1:peq (pmul (psub a b) c) []:=aq_ fun x=>by
  have:=ak_ x h
  rw[af_,af_] at this
  rw[af_,cd_]
  show _=(0:Rat)
  grind
 have h2:plen (psub a b)=0:=(ms_ (am_ h1)).resolve_right hc
 intro i
 have:=plen_zero.1 h2 i
 rw[d6_] at this
 grind
theorem Rf.eval_cop{u v:List Rat}(h:Rf u v):∃s t:LR_,∀x,ar_ x s * ar_ x u+ar_ x t * ar_ x v=1:=by
 obtain⟨s,t,hst⟩:=h.cop
 refine ⟨s,t,fun x=>?_⟩
 have h1:=ak_ x hst
 rwa [a2_,af_,af_,bs_] at h1
theorem Rf.times{u v u' v':List Rat}(h:Rf u v)(he:peq (pmul u v') (pmul v u')):∃K,peq u' (pmul u K)∧peq v' (pmul v K):=by
 obtain⟨s,t,hst⟩:=h.eval_cop
 refine ⟨padd (pmul s u') (pmul t v'),aq_ fun x=>?_,aq_ fun x=>?_⟩
 ·have h1:=hst x
  have h2:=ak_ x he
  rw[af_,af_] at h2
  rw[af_,a2_,af_,af_];grind
 ·have h1:=hst x
  have h2:=ak_ x he
  rw[af_,af_] at h2
  rw[af_,a2_,af_,af_];grind
theorem Rf.same{u v u' v':List Rat}(h:Rf u v)(h':Rf u' v')(he:peq (pmul u v') (pmul v u')):u'=u∧v'=v:=by
 obtain⟨K,hu,hv⟩:=h.times he
 obtain⟨K',_,hv'⟩:=h'.times (u':=u) (v':=v) (aq_ fun x=>by
  have h2:=ak_ x he
  rw[af_,af_] at h2 ⊢
  grind)
 have hK:plen K≠0:=fun e=>h'.v0 (by rw[am_ hv,am_ (a1_ (peq.refl v) (cy_ e)),am_ (d9_ v)];rfl)
 have hK':plen K'≠0:=fun e=>h.v0 (by rw[am_ hv',am_ (a1_ (peq.refl v') (cy_ e)),am_ (d9_ v')];rfl)
 have l1:=am_ hv
 have l2:=am_ hv'
 rw[dq_ h.v0 hK] at l1
 rw[dq_ h'.v0 hK'] at l2
 have hK1:plen K=1:=by have:=h.v0;have:=h'.v0;omega
 have ht:=(fr_ (a:=v) (b:=K) (m:=plen v - 1) (n:=0) (by have:=h.v0;omega) (by omega)).2
 rw[h.one,Nat.add_zero,←hv,Rat.one_mul] at ht
 have h1:=h'.one
 rw[show plen v' - 1=plen v - 1 by omega,ht] at h1
 have hKe:peq K [1]:=fun i=>by
  cases i with
  | zero=>exact h1
  | succ i=>rw[b8_ (a:=K) (by omega),b1_,d8_]
 constructor
 ·rw[←h'.ur,←h.ur]
  refine br_ (hu.trans (aq_ fun x=>?_))
  rw[af_,ak_ x hKe,bs_];grind
 ·rw[←h'.vr,←h.vr]
  refine br_ (hv.trans (aq_ fun x=>?_))
  rw[af_,ak_ x hKe,bs_];grind
theorem rf_nought:Rf [] [1]:=⟨by decide,by decide +kernel,by rw[et_ (by decide)];decide,by rw[et_ (by decide)];rfl,[],[1],aq_ fun x=>by
 rw[a2_,af_,af_,bs_];show 0 * _+_=_;grind⟩
theorem Rf.none{v:List Rat}(h:Rf [] v):v=[1]:=(rf_nought.same h (aq_ fun x=>by rw[af_,af_];show 0 * _=_ * 0;grind)).2
theorem isF.same{U V u v u' v':List Rat}(h:isF U V u v)(h':isF U V u' v'):u'=u∧v'=v:=by
 obtain⟨h1,h2,h3⟩:=h
 obtain⟨g1,g2,g3⟩:=h'
 by_cases hV:plen V=0
 ·have e1:=h2 hV
  have e2:=g2 hV
  subst e1
  subst e2
  exact⟨rfl,by rw[h1.none,g1.none]⟩
 ·refine h1.same g1 (f2_ hV (aq_ fun x=>?_))
  have e1:=ak_ x (h3 hV)
  have e2:=ak_ x (g3 hV)
  rw[af_,af_] at e1 e2
  rw[af_,af_,af_,af_];grind
theorem isF.cross{U V U' V' u v:List Rat}(h:isF U V u v)(hV:plen V≠0)(hV':plen V'≠0)(he:peq (pmul U V') (pmul U' V)):isF U' V' u v:=by
 refine ⟨h.1,fun e=>absurd e hV',fun _=>f2_ hV (aq_ fun x=>?_)⟩
 have e1:=ak_ x (h.2.2 hV)
 have e2:=ak_ x he
 rw[af_,af_] at e1 e2
 rw[af_,af_,af_,af_];grind
theorem isF.of{U V U' V' u v:List Rat}(h:isF U V u v)(hU:peq U U')(hV:peq V V'):isF U' V' u v:=
 ⟨h.1,fun e=>h.2.1 (by rw[am_ hV];exact e),fun e=>(a1_ (peq.refl u) hV.symm).trans ((h.2.2 (by rw[am_ hV];exact e)).trans (a1_ (peq.refl v) hU))⟩
theorem Rf.isF{u v:List Rat}(h:Rf u v):isF u v u v:=⟨h,fun e=>absurd e h.v0,fun _=>ml_ u v⟩
theorem isF.zero{U V u v:List Rat}(h:isF U V u v)(hU:plen U=0∨plen V=0):u=[]∧v=[1]:=by
 have hu:u=[]:=by
  by_cases hV:plen V=0
  ·exact h.2.1 hV
  ·have h1:=h.2.2 hV
   have h2:plen (pmul u V)=0:=am_ (h1.trans ((a1_ (peq.refl v) (cy_ (hU.resolve_right hV))).trans (d9_ v)))
   have h3:=(ms_ h2).resolve_right hV
   rw[←h.1.ur]
   exact List.eq_nil_of_length_eq_zero h3
 subst hu
 exact⟨rfl,h.1.none⟩
theorem ic_{U V:List Rat}(hU:plen U=0∨plen V=0):isF U V [] [1]:=by
 refine ⟨rf_nought,fun _=>rfl,fun hV=>?_⟩
 have h1:=cy_ (hU.resolve_right hV)
 exact aq_ fun x=>by rw[af_,af_,ak_ x h1];show 0 * _=_ * 0;grind
theorem sv_{U V g x y:List Rat}{c:Rat}(hg:isGcd U V g)(hV:plen V≠0)(hx:peq U (pmul x g))(hy:peq V (pmul y g))(hc:c=1 / co y (plen y - 1)) :
 isF U V (ah_ (ag_ c x)) (ah_ (ag_ c y)):=by
 have hg0:plen g≠0:=fun e=>hV (by rw[am_ hy,am_ (a1_ (peq.refl y) (cy_ e)),am_ (d9_ y)];rfl)
 have hy0:plen y≠0:=fun e=>hV (by rw[am_ hy,am_ (a1_ (cy_ e) (peq.refl g))];rfl)
 have ht:=dl_ (a:=y) (n:=plen y - 1) (by omega)
 have hcy:c * co y (plen y - 1)=1:=by rw[hc];exact Rat.div_mul_cancel ht
 have hc0:c≠0:=fun e=>by rw[e,Rat.zero_mul] at hcy;exact absurd hcy (by decide)
 have hpl:plen (ah_ (ag_ c y))=plen y:=by rw[am_ (au_ _),bm_ hc0]
 obtain⟨s,t,hst⟩:=hg.1.2.2
 have hb:peq (padd (pmul s x) (pmul t y)) [1]:=f2_ hg0 (aq_ fun z=>by
  have e1:=ak_ z hst
  have e2:=ak_ z hx
  have e3:=ak_ z hy
  rw[a2_,af_,af_] at e1
  rw[af_] at e2 e3
  rw[af_,af_,bs_,a2_,af_,af_];grind)
 refine ⟨⟨a7_ _,a7_ _,by rw[hpl];exact hy0,by rw[hpl,fa_,aj_];exact hcy,ag_ (1 / c) s,ag_ (1 / c) t,aq_ fun z=>?_⟩,fun e=>absurd e hV,fun _=>aq_ fun z=>?_⟩
 ·have e1:=ak_ z hb
  have e4:1 / c * c=1:=Rat.div_mul_cancel hc0
  rw[a2_,af_,af_,bs_] at e1
  rw[a2_,af_,af_,ap_,ap_,ak_ z (au_ _),ak_ z (au_ _),ap_,ap_,bs_]
  generalize 1 / c=d at *
  grind
 ·have e2:=ak_ z hx
  have e3:=ak_ z hy
  rw[af_] at e2 e3
  rw[af_,af_,ak_ z (au_ _),ak_ z (au_ _),ap_,ap_,e2,e3];grind
theorem isF.whole{U V u v:List Rat}(h:isF U V u v)(hV:plen V≠0):∃G,peq U (pmul u G)∧peq V (pmul v G)∧plen G≠0:=by
 obtain⟨K,h1,h2⟩:=h.1.times (h.2.2 hV)
 exact⟨K,h1,h2,fun e=>hV (by rw[am_ h2,am_ (a1_ (peq.refl v) (cy_ e)),am_ (d9_ v)];rfl)⟩
theorem isF.lens{U V u v:List Rat}(h:isF U V u v)(hV:plen V≠0):plen u≤plen U∧plen v≤plen V:=by
 obtain⟨G,h1,h2,h3⟩:=h.whole hV
 have l2:=am_ h2
 rw[dq_ h.1.v0 h3] at l2
 by_cases hu:plen u=0
 ·exact⟨by omega,by omega⟩
 ·have l1:=am_ h1
  rw[dq_ hu h3] at l1
  exact⟨by omega,by omega⟩
theorem isF.small{U V u v:List Rat}{c:Rat}{s:Nat}(h:isF U V u v)(hV:plen V≠0)(hc:c≠0)(hU:Ints (ag_ c U) (pw s))(hVI:Ints (ag_ c V) (pw s))(hn:2 * (plen u+plen v)+1≤4294967296) :
 ∃k:Int,k≠0∧k.natAbs≤pw ((s+1) * (plen u+plen v))∧Ints (ag_ (k:Rat) u) (pw ((s+1) * (plen u+plen v)))∧Ints (ag_ (k:Rat) v) (pw ((s+1) * (plen u+plen v))):=by
 obtain⟨G,h1,h2,h3⟩:=h.whole hV
 obtain⟨k,k0,ku,kv⟩:=pn_ hc hU hVI h1 h2 h3 h.1.v0 h.1.cop
 have hX:(2 * ((plen u+plen v) * pw s)+1) ^ (plen u+plen v - 1)≤pw ((s+1) * (plen u+plen v)):=by
  have p1:2 * ((plen u+plen v) * pw s)+1≤pw (s+1):=by
   have p2:=fi_ s
   have p3:(2 * (plen u+plen v)+1) * pw s≤pw 1 * pw s:=Nat.mul_le_mul_right _ (by rw[oo_];exact hn)
   rw[←ey_,Nat.add_comm 1 s,Nat.add_mul,Nat.mul_assoc,Nat.one_mul] at p3
   omega
  have p5:pw ((s+1) * (plen u+plen v))=pw (s+1) ^ (plen u+plen v):=Nat.pow_mul _ _ _
  rw[p5]
  exact Nat.le_trans (Nat.pow_le_pow_left p1 _) (Nat.pow_le_pow_right (fi_ _) (by omega))
 have ku2:=ku.mono hX
 have kv2:=kv.mono hX
 obtain⟨z,z1,z2⟩:=kv2 (plen v - 1)
 rw[aj_,h.1.one,Rat.mul_one] at z1
 subst z1
 exact⟨z,fun e=>k0 (by rw[e];rfl),z2,ku2,kv2⟩
theorem isF.value{U V u v:List Rat}(h:isF U V u v){x:Rat}(hx:ar_ x V≠0):ar_ x v≠0∧ar_ x u * ar_ x V=ar_ x v * ar_ x U:=by
 have hV:plen V≠0:=fun e=>hx (by rw[ak_ x (cy_ e)];rfl)
 obtain⟨G,h1,h2,_⟩:=h.whole hV
 have e2:=ak_ x h2
 rw[af_] at e2
 refine ⟨fun e=>hx (by rw[e2,e];grind),?_⟩
 have:=ak_ x (h.2.2 hV)
 rwa [af_,af_] at this
def dup (u v:LR_):List Rat:=psub (pmul (bw_ u) v) (pmul u (bw_ v))
theorem h6_{v w:List Rat}(h:plen v≠0)(k:plen w≠0):plen (pmul v w)≠0:=by rw[dq_ h k];omega
structure Fz (U V:LR_) (h s:Nat):Prop where
 lu:U.length≤h
 lv:V.length≤h
 form:∃c:Nat,0 < c∧c≤pw s∧Ints (ag_ ((c:Nat):Rat) U) (pw s)∧Ints (ag_ ((c:Nat):Rat) V) (pw s)
theorem Fz.mono{U V:List Rat}{h s h' s':Nat}(f:Fz U V h s)(hh:h≤h')(hs:s≤s'):Fz U V h' s':=by
 obtain⟨a,b,c,c1,c2,c3,c4⟩:=f
 exact⟨Nat.le_trans a hh,Nat.le_trans b hh,c,c1,Nat.le_trans c2 (ch_ hs),c3.mono (ch_ hs),c4.mono (ch_ hs)⟩
theorem Fz.swap{U V:List Rat}{h s:Nat}(f:Fz U V h s):Fz V U h s:=⟨f.lv,f.lu,by obtain⟨c,c1,c2,c3,c4⟩:=f.form;exact⟨c,c1,c2,c4,c3⟩⟩
theorem Fz.qlen{U V:List Rat}{h s:Nat}(f:Fz U V h s):∀q∈U,Go.Proofs.YtocebjbjnfammaaGreat.qlen q≤s+2:=by
 obtain⟨c,c1,c2,c3,c4⟩:=f.form
 refine co_ fun i=>?_
 obtain⟨z,z1,z2⟩:=c3 i
 have hc0:((c:Nat):Rat)≠0:=fun e=>by have h9:c=0:=Rat.natCast_inj.1 (e.trans rfl);omega
 have e:co U i=(z:Rat) / ((c:Nat):Rat):=by
  have f2:(z:Rat) / ((c:Nat):Rat) * ((c:Nat):Rat)=(z:Rat):=Rat.div_mul_cancel hc0
  rw[aj_] at z1
  generalize (z:Rat) / ((c:Nat):Rat)=b at *
  have f4:((c:Nat):Rat) * (co U i - b)=0:=by grind
  rcases Rat.mul_eq_zero.1 f4 with g | g
  ·exact absurd g hc0
  ·grind
 rw[e]
 exact dp_ z2 c2
theorem Fz.of{U V:List Rat}{N n m h s:Nat}(hU:∀q∈U,Go.Proofs.YtocebjbjnfammaaGreat.qlen q≤N)(hV:∀q∈V,Go.Proofs.YtocebjbjnfammaaGreat.qlen q≤N)(hn:U.length≤n)(hm:V.length≤m)(hh:n≤h)(hh':m≤h)(hs:N * (n+m)≤s):Fz U V h s:=by
 obtain⟨c,h1,h2,h3⟩:=ints_of (U ++ V) (fun q hq=>(List.mem_append.1 hq).elim (hU q) (hV q))
 have hl:pw (N * (U ++ V).length)≤pw s:=ch_ (Nat.le_trans (Nat.mul_le_mul_left N (by rw[List.length_append];omega)) hs)
 refine ⟨by omega,by omega,c,h1,Nat.le_trans h2 hl,fun i=>?_,fun i=>?_⟩
 ·by_cases hi:i < U.length
  ·obtain⟨z,g1,g2⟩:=h3 i
   refine ⟨z,?_,Nat.le_trans g2 hl⟩
   rw[←g1,aj_,aj_]
   congr 1
   unfold co
   rw[List.getD_eq_getElem?_getD,List.getD_eq_getElem?_getD,List.getElem?_append_left hi]
  ·exact⟨0,by rw[da_ (by rw[a9_];omega)];rfl,Nat.zero_le _⟩
 ·obtain⟨z,g1,g2⟩:=h3 (U.length+i)
  refine ⟨z,?_,Nat.le_trans g2 hl⟩
  rw[←g1,aj_,aj_]
  congr 1
  unfold co
  rw[List.getD_eq_getElem?_getD,List.getD_eq_getElem?_getD,List.getElem?_append_right (by omega),Nat.add_sub_cancel_left]
theorem Ints.abs{a:List Rat}{k:Int}{H:Nat}(h:Ints (ag_ (k:Rat) a) H):Ints (ag_ ((k.natAbs:Nat):Rat) a) H:=by
 rcases Int.natAbs_eq k with e | e
 ·have h2:(k:Rat)=((k.natAbs:Nat):Rat):=by rw[←Rat.intCast_natCast,←e]
  rwa [←h2]
 ·have h2:((k.natAbs:Nat):Rat) = -(k:Rat):=by
   have h3:(k:Rat) = -((k.natAbs:Nat):Rat):=by rw[←Rat.intCast_natCast,←Rat.intCast_neg,←e]
   rw[h3];grind
  rw[h2]
  exact h.neg
theorem Fz.right{U V u v:List Rat}{h s:Nat}(f:Fz U V h s)(hf:isF U V u v)(h1:1≤h)(h2:h≤1000000):Fz u v h ((s+1) * (2 * h)):=by
 have p1:1≤pw ((s+1) * (2 * h)):=fi_ _
 by_cases hV:plen V=0
 ·obtain⟨rfl,rfl⟩:=hf.zero (.inr hV)
  refine ⟨by simp,by simpa using h1,1,by decide,p1,fun i=>⟨0,rfl,Nat.zero_le _⟩,fun i=>?_⟩
  cases i with
  | zero=>exact⟨1,by rw[aj_,show co [1] 0=(1:Rat) from rfl,Rat.mul_one];rfl,p1⟩
  | succ i=>exact⟨0,by rw[aj_,b1_,d8_,Rat.mul_zero];rfl,Nat.zero_le _⟩
 ·obtain⟨c,c1,c2,c3,c4⟩:=f.form
  obtain⟨l1,l2⟩:=hf.lens hV
  have l3:=bb_ U
  have l4:=bb_ V
  have l5:=a0_ hf.1.ur
  have l6:=a0_ hf.1.vr
  have hl:=f.lu
  have hl':=f.lv
  obtain⟨k,k0,k1,k2,k3⟩:=hf.small hV (c:=((c:Nat):Rat)) (fun e=>by have h9:c=0:=Rat.natCast_inj.1 (e.trans rfl);omega) c3 c4 (by omega)
  have hp:pw ((s+1) * (plen u+plen v))≤pw ((s+1) * (2 * h)):=ch_ (Nat.mul_le_mul_left _ (by omega))
  exact⟨by omega,by omega,k.natAbs,by omega,Nat.le_trans k1 hp,k2.abs.mono hp,k3.abs.mono hp⟩
theorem prod_pw{n X a b:Nat}(hn:n≤1000000)(h:X≤pw a * pw b):n * X≤pw (a+b+1):=by
 rw[ey_ (a+b) 1,ey_,oo_,Nat.mul_comm]
 exact Nat.mul_le_mul h (by omega)
theorem Ints.prod{a b:List Rat}{c d:Nat}{s t:Nat}(h:Ints (ag_ ((c:Nat):Rat) a) (pw s))(k:Ints (ag_ ((d:Nat):Rat) b) (pw t))(hn:a.length≤1000000):Ints (ag_ (((c * d:Nat)):Rat) (pmul a b)) (pw (s+t+1)):=by
 refine Ints.congr (Ints.mono (k.mul h) (prod_pw (by rw[a9_];exact hn) (Nat.le_refl _))) (aq_ fun x=>?_)
 rw[af_,ap_,ap_,ap_,af_,Rat.natCast_mul];grind
theorem Fz.add{u1 v1 u2 v2:List Rat}{h1 h2 r1 r2:Nat}(f:Fz u1 v1 h1 r1)(g:Fz u2 v2 h2 r2)(hh:h1≤1000000)(hh':h2≤1000000):Fz (padd (pmul u1 v2) (pmul u2 v1)) (pmul v1 v2) (h1+h2) (r1+r2+2):=by
 obtain⟨a1,a2,c,c1,c2,c3,c4⟩:=f
 obtain⟨b1,b2,d,d1,d2,d3,d4⟩:=g
 have p1:=b7_ u1 v2
 have p2:=b7_ u2 v1
 have p3:=b7_ v1 v2
 have p4:=fz_ (pmul u1 v2) (pmul u2 v1)
 have e1:=c3.prod d4 (by omega)
 have e2:=d3.prod c4 (by omega)
 have e3:=c4.prod d4 (by omega)
 rw[Nat.mul_comm d c,Nat.add_comm r2 r1] at e2
 refine ⟨by omega,by omega,c * d,Nat.mul_pos c1 d1,?_,Ints.congr (Ints.mono (e1.add e2) (two_pw _)) (aq_ fun x=>?_),e3.mono (ch_ (by omega))⟩
 ·refine Nat.le_trans (Nat.mul_le_mul c2 d2) ?_
  rw[←ey_];exact ch_ (by omega)
 ·rw[a2_,ap_,ap_,ap_,a2_];grind
theorem Fz.mul{u1 v1 u2 v2:List Rat}{h1 h2 r1 r2:Nat}(f:Fz u1 v1 h1 r1)(g:Fz u2 v2 h2 r2)(hh:h1≤1000000):Fz (pmul u1 u2) (pmul v1 v2) (h1+h2) (r1+r2+2):=by
 obtain⟨a1,a2,c,c1,c2,c3,c4⟩:=f
 obtain⟨b1,b2,d,d1,d2,d3,d4⟩:=g
 have p1:=b7_ u1 u2
 have p3:=b7_ v1 v2
 refine ⟨by omega,by omega,c * d,Nat.mul_pos c1 d1,?_,(c3.prod d3 (by omega)).mono (ch_ (by omega)),(c4.prod d4 (by omega)).mono (ch_ (by omega))⟩
 refine Nat.le_trans (Nat.mul_le_mul c2 d2) ?_
 rw[←ey_];exact ch_ (by omega)
theorem Ints.diff{a:List Rat}{c s:Nat}(h:Ints (ag_ ((c:Nat):Rat) a) (pw s))(hn:a.length≤1000000):Ints (ag_ ((c:Nat):Rat) (bw_ a)) (pw (s+1)):=fun i=>by
 obtain⟨z,z1,z2⟩:=h (i+1)
 rw[aj_] at z1
 rcases Nat.lt_or_ge (i+1) a.length with hi | hi
 ·refine ⟨((i+1:Nat):Int) * z,?_,?_⟩
  ·rw[aj_,dk_,Rat.intCast_mul,Rat.intCast_natCast,←z1];grind
  ·rw[Int.natAbs_mul,Int.natAbs_natCast,ey_,oo_,Nat.mul_comm]
   exact Nat.mul_le_mul z2 (by omega)
 ·exact⟨0,by rw[aj_,dk_,da_ hi,Rat.mul_zero,Rat.mul_zero];rfl,Nat.zero_le _⟩
theorem Fz.dup{u v:List Rat}{h r:Nat}(f:Fz u v h r)(hh:h≤1000000):Fz (Go.Proofs.YtocebjbjnfammaaGreat.dup u v) (pmul v v) (h+h) (r+r+3):=by
 obtain⟨a1,a2,c,c1,c2,c3,c4⟩:=f
 have p1:=b7_ (bw_ u) v
 have p2:=b7_ u (bw_ v)
 have p3:=b7_ v v
 have p4:=fz_ (pmul (bw_ u) v) (ag_ (-1) (pmul u (bw_ v)))
 have p5:=fd_ u
 have p6:=fd_ v
 rw[a9_] at p4
 have e1:=(c3.diff (by omega)).prod c4 (by omega)
 have e2:=c3.prod (c4.diff (by omega)) (by omega)
 have e3:=c4.prod c4 (by omega)
 rw[show r+1+r+1=r+r+2 by omega] at e1
 rw[show r+(r+1)+1=r+r+2 by omega] at e2
 refine ⟨Nat.le_trans p4 (by omega),by omega,c * c,Nat.mul_pos c1 c1,?_,Ints.congr (Ints.mono (e1.add e2.neg) (two_pw _)) (aq_ fun x=>?_),e3.mono (ch_ (by omega))⟩
 ·refine Nat.le_trans (Nat.mul_le_mul c2 c2) ?_
  rw[←ey_];exact ch_ (by omega)
 ·unfold Go.Proofs.YtocebjbjnfammaaGreat.dup
  rw[a2_,ap_,ap_,ap_,cd_];grind
open Go.ChangeShapes Go.WideShapes Go.ChangeAt Go.RowKit Go.Deep
def ny_ (l:List Value):Prop:=∀u∈l,∃(a:OA_) (n c:Nat),u=.slice a n c
def holdsSlices (w:World) (v:Value):Prop:=∀g,v.ownBlock=some g→∀(j:Nat) u,w.cell? ⟨g,j,none⟩=some u→∃(a:OA_) (n c:Nat),u=.slice a n c
theorem hq_(w:World):holdsSlices w (.slice none 0 0):=fun g h=>by simp[Value.ownBlock] at h
theorem holdsSlices.clean{w:World}{v:Value}(h:holdsSlices w v):Go.Proofs.YtocebjbjnfammaaGreat.clean w v:=fun g hg j k hc=>by
 obtain⟨a,n,c,e⟩:=h g hg j _ hc
 cases e
theorem ds_{w:World}{g:Nat}{n c:Nat}{cur:Array Value}{e:TypeId}{fr:Nat × Nat}(hg:w.heap[g]? = some (.cells cur e fr))(h:ny_ cur.toList):holdsSlices w (.slice (some ⟨g,0,none⟩) n c):=by
 intro g' hg' j u hc
 simp[Value.ownBlock] at hg'
 subst hg'
 rw[cell_of_row w g j cur e fr hg] at hc
 have hm:u∈cur:=Array.mem_of_getElem? hc
 exact h _ (by simpa using hm)
def anew (w:World) (v v':Value):Prop:=∀j,v'.ownBlock=some j→v.ownBlock=some j∨w.heap.size≤j
structure Fresh (w:World) (v v':Value):Prop where
 held:holdsSlices w v
 new:anew w v v'
theorem Fxs.aside{w w':World}{v:Value}{a:Option Addr}{n c:Nat}{L:List Fx}(h:Fxs w a n c L)(hc:holdsSlices w v)(hg:w.grownBy w' v.ownBlock):Fxs w' a n c L:=by
 refine ⟨h.1,h.2.1,h.2.2.1,h.2.2.2.1,fun x hx=>Fx.aside (h.ok hx) hc.clean hg,h.2.2.2.2.2.imp id fun ⟨b,off,e,hcl⟩=>⟨b,off,e,fun j hj=>?_⟩⟩
 obtain⟨h1,h2,h3⟩:=hcl j hj
 have hlt:b < w.heap.size:=by
  rcases Nat.lt_or_ge b w.heap.size with h9 | h9
  ·exact h9
  ·rw[World.cell?,Array.getElem?_eq_none h9] at h1;cases h1
 have hne:some b≠v.ownBlock:=fun e2=>by
  obtain⟨_,_,_,e3⟩:=hc b e2.symm _ _ h1
  cases e3
 have hk:=hg.block b hlt hne
 exact⟨(World.cell?_of_block hk).trans h1,(World.cell?_of_block hk).trans h2,(World.cell?_of_block hk).trans h3⟩
structure Sx where
 a:Option Addr
 n:Nat
 c:Nat
def Sx.val (x:Sx):Value:=.slice x.a x.n x.c
def Sx.zero:Sx:=⟨none,0,0⟩
def OwnF (w:World) (base:Nat) (e:TypeId) (v:Value) (LL:List (List Fx)):Prop:=
 ∃XS:List Sx,w.ownsRow base e 1 v XS.length (XS.map Sx.val)∧holdsSlices w v∧XS.length=LL.length∧∀j,j < LL.length→Fxs w (XS.getD j Sx.zero).a (XS.getD j Sx.zero).n (XS.getD j Sx.zero).c (LL.getD j [])
theorem OwnF.nil(w:World)(base:Nat)(e:TypeId):OwnF w base e (.slice none 0 0) []:=⟨[],World.ownsRow_nil _ _ _ _,hq_ _,rfl,fun j hj=>by simp at hj⟩
theorem OwnF.later{w w':World}{base:Nat}{e:TypeId}{v:Value}{LL:List (List Fx)}(h:OwnF w base e v LL)(hb:Below w.heap.size w w'):OwnF w' base e v LL:=by
 obtain⟨XS,⟨h1,h2⟩,h3,h4,h5⟩:=h
 refine ⟨XS,?_,?_,h4,fun j hj=>(h5 j hj).later hb⟩
 ·rcases h2 with ⟨rfl,h0⟩ | ⟨g,cap,cur,rfl,hbg,hg,q4,q5,q6,q7⟩
  ·exact⟨h1,.inl ⟨rfl,h0⟩⟩
  ·exact⟨h1,.inr ⟨g,cap,cur,rfl,hbg,ac_ hg hb,q4,q5,q6,q7⟩⟩
 ·rcases h2 with ⟨rfl,h0⟩ | ⟨g,cap,cur,rfl,hbg,hg,q4,q5,q6,q7⟩
  ·exact hq_ _
  ·intro g2 hg2 j u hu
   simp[Value.ownBlock] at hg2
   subst hg2
   rw[World.cell?_of_block (a:=⟨g,j,none⟩) (hb.block g (Array.getElem?_eq_some_iff.1 hg).1)] at hu
   exact h3 g rfl j u hu
theorem OwnF.l_ {w w':World}{x0 x1 x2 x3}(h:OwnF w x0 x1 x2 x3)(b:Below w.heap.size w w'):Hid (OwnF w' x0 x1 x2 x3):=Lib.hid (h.later b)
theorem OwnF.base{w:World}{base:Nat}{e:TypeId}{v:Value}{LL:List (List Fx)}(h:OwnF w base e v LL)(k:Nat)(hk:v.ownBlock=some k):base≤k:=by
 obtain⟨XS,h1,_⟩:=h
 rcases h1.2 with ⟨rfl,_⟩ | ⟨g,cap,cur,rfl,hbg,_⟩
 ·simp[Value.ownBlock] at hk
 ·simp[Value.ownBlock] at hk
  omega
theorem OwnF.out{w:World}{base:Nat}{e:TypeId}{v:Value}{LL:List (List Fx)}(h:OwnF w base e v LL):∃(a:OA_) (cap:Nat),v=.slice a LL.length cap∧Fxss w a LL.length cap LL:=by
 obtain⟨XS,h1,_,h4,h5⟩:=h
 rcases h1.2 with ⟨rfl,h0⟩ | ⟨g,cap,cur,rfl,hbg,hg,hnc,hcm,hcs,htake⟩
 ·have h0':LL.length=0:=by omega
  refine ⟨none,0,by rw[h0'],rfl,by omega,by omega,fun _=>rfl,.inl h0'⟩
 ·refine ⟨_,cap,by rw[h4],rfl,by omega,by unfold maxLen at hcm;omega,fun e=>(by cases e),.inr ⟨g,0,rfl,fun j hj=>⟨_,_,_,?_,h5 j hj⟩⟩⟩
  have hj':j < XS.length:=by omega
  have h9:=h1.cells (g:=g) rfl j (XS.getD j Sx.zero).val (by rw[List.getElem?_map,List.getElem?_eq_getElem hj',List.getD_eq_getElem?_getD,List.getElem?_eq_getElem hj'];rfl)
  rw[add_plain] at h9
  exact h9
theorem if_{a b:Option Addr}{n m c d:Nat}:ny_ [.slice a n c,.slice b m d]:=by
 intro u hu
 simp at hu
 rcases hu with rfl | rfl
 ·exact⟨_,_,_,rfl⟩
 ·exact⟨_,_,_,rfl⟩
theorem Rw.boxed{w:World}{a:Option Addr}{n c:Nat}{qs:List Rat}(h:Rw w a n c qs){g:Nat}{x y:Option Addr}{n1 c1 n2 c2:Nat}{t:TypeId}(hg:w.heap[g]? = some (.cells #[.slice x n1 c1,.slice y n2 c2] t (0,0)))(u v:Value) :
 Rw ((w.setCell ⟨g,0,none⟩ u).setCell ⟨g,1,none⟩ v) a n c qs:=by
 obtain⟨L,h1,h2,h3⟩:=h
 exact⟨L,h1.aside (v:=.slice (some ⟨g,0,none⟩) 0 0) (ds_ hg if_) (cs_ (ce_ w g 0 u) (ce_ _ g 1 v)),h2,h3⟩
theorem Rw.lit1(w:World)(e:TypeId){q:Rat}{a b:Option Addr}{n c m d:Nat}(h1:Wd w a n c (dg q.num.natAbs))(h2:Wd w b m d (dg q.den)) :
 Rw (w.alloc (.cells #[.bool (zneg q.num),.slice a n c,.slice b m d] e)) (some ⟨w.heap.size,0,none⟩) 1 1 [q]:=by
 have hb:Below w.heap.size w (w.alloc (.cells #[.bool (zneg q.num),.slice a n c,.slice b m d] e)):=aa_ _ _
 have hx:=ai_ w #[.bool (zneg q.num),.slice a n c,.slice b m d] e
 refine ⟨[rx q a n c b m d],⟨rfl,Nat.le_refl _,by omega,fun h=>(by cases h),fun x hx=>?_,.inr ⟨w.heap.size,0,rfl,fun j hj=>?_⟩⟩,by simp[rx_q],fun x hx=>?_⟩
 ·rw[List.mem_singleton.1 hx];exact⟨h1.later hb,h2.later hb⟩
 ·match j,hj with
  | 0,_=>exact⟨ad_ hx 0,ad_ hx 1,ad_ hx 2⟩
 ·rw[List.mem_singleton.1 hx];exact dr_ ..
theorem Rw.lit0(w:World)(p:Addr):Rw w (some p) 0 0 []:=⟨[],⟨rfl,Nat.le_refl _,by omega,fun h=>(by cases h),fun x hx=>by simp at hx,.inl rfl⟩,rfl,fun x hx=>by simp at hx⟩
theorem bd_{w:World}{A0:Nat}{x y:Value}{t0:TypeId}(h0:w.heap[A0]? = some (.cells #[x,y] t0 (0,0))):w.cell? ⟨A0,0,none⟩=some x∧w.cell? ⟨A0,1,none⟩=some y:=⟨ad_ h0 0,ad_ h0 1⟩
def LstF (U V:LR_) (w:World) (e:Ending) (w':World):Prop:=∃(a:OA_) (n c:Nat) (u:LR_) (b:OA_) (m d:Nat) (v:LR_),e=.returned (.agg #[.slice a n c,.slice b m d])∧Rw w' a n c u∧Rw w' b m d v∧isF U V u v∧Below w.heap.size w w'
abbrev Pok (h s:Nat):Prop:=h≤50∧(4 * h+24) * ((s+1) * (2 * h+1)+5)≤1900000000
theorem Pok.less{h s h' s':Nat}(k:Pok h s)(hh:h'≤h)(hs:s'≤s):Pok h' s':=by
 obtain⟨h1,h2⟩:=k
 exact⟨by omega,Nat.le_trans (Nat.mul_le_mul (by omega) (Nat.add_le_add_right (Nat.mul_le_mul (by omega) (by omega)) 5)) h2⟩
def Fok (h s:Nat):Prop:=2≤h∧h≤50∧3 * (s+2+2 * h * ((s+1) * (2 * h+1)+3))≤1900000000∧Pok h s
theorem Fok.less{h s h' s':Nat}(k:Fok h s)(h2:2≤h')(hh:h'≤h)(hs:s'≤s):Fok h' s':=by
 obtain⟨k1,k2,k3,k4⟩:=k
 refine ⟨h2,by omega,Nat.le_trans (Nat.mul_le_mul_left 3 (Nat.add_le_add (by omega) (Nat.mul_le_mul (by omega) (Nat.add_le_add_right (Nat.mul_le_mul (by omega) (by omega)) 3)))) k3,k4.less hh hs⟩
theorem pt_(neg:Bool)(a:OA_)(n cap:Nat)(b:OA_)(m cap':Nat)(w:World):Calls Tryz.prog 17 #[frV neg a n cap b m cap'] w (bf_ (frV neg a n cap b m cap') w):=by
 have HG:Hid (((w.alloc (.cells #[.bool neg,.slice a n cap,.slice b m cap'] 27)).alloc (.cells #[.bool neg,.slice a n cap,.slice b m cap'] 44)).heap[w.heap.size+1]? = some (.cells #[.bool neg,.slice a n cap,.slice b m cap'] 44 (0,0))):=hd_ (c0_ w ((w.alloc (.cells #[.bool neg,.slice a n cap,.slice b m cap'] 27)).alloc (.cells #[.bool neg,.slice a n cap,.slice b m cap'] 44)) _ _ _ _ (Below.refl _ _)).2
 have HB:=hd_ (ab_ (aa_ w (.cells #[.bool neg,.slice a n cap,.slice b m cap'] 27)) (aa_ _ (.cells #[.bool neg,.slice a n cap,.slice b m cap'] 44)))
 go_enter Tryz.func17,Tryz.ntmps17
 unfold frV
 go_wp2
 refine bodyPost_ret (results_cell_row Tryz.results17 _ _ (w.heap.size+1) 44 #[.bool neg,.slice a n cap,.slice b m cap'] (0,0) _ rfl HG.out Tryz.underlying44 rfl (by kernel_rfl)) rfl ?_
 exact⟨rfl,HB.out⟩
theorem t8_(neg:Bool)(a:OA_)(n cap:Nat)(b:OA_)(m cap':Nat)(w:World):Calls Tryz.prog 73 #[frV neg a n cap b m cap'] w (bf_ (frV neg a n cap b m cap') w):=by
 have HG:Hid (((w.alloc (.cells #[.bool neg,.slice a n cap,.slice b m cap'] 44)).alloc (.cells #[.bool neg,.slice a n cap,.slice b m cap'] 27)).heap[w.heap.size+1]? = some (.cells #[.bool neg,.slice a n cap,.slice b m cap'] 27 (0,0))):=hd_ (c0_ w ((w.alloc (.cells #[.bool neg,.slice a n cap,.slice b m cap'] 44)).alloc (.cells #[.bool neg,.slice a n cap,.slice b m cap'] 27)) _ _ _ _ (Below.refl _ _)).2
 have HB:=hd_ (ab_ (aa_ w (.cells #[.bool neg,.slice a n cap,.slice b m cap'] 44)) (aa_ _ (.cells #[.bool neg,.slice a n cap,.slice b m cap'] 27)))
 go_enter Tryz.func73,Tryz.ntmps73
 unfold frV
 go_wp2
 refine bodyPost_ret (results_cell_row Tryz.results73 _ _ (w.heap.size+1) 27 #[.bool neg,.slice a n cap,.slice b m cap'] (0,0) _ rfl HG.out Tryz.underlying27 rfl (by kernel_rfl)) rfl ?_
 exact⟨rfl,HB.out⟩
theorem k2_(neg:Bool)(a:OA_)(n cap:Nat)(b:OA_)(m cap':Nat)(l k:List Nat)(a':OA_)(n' c':Nat)(b':OA_)(m' d':Nat)(w:World)(ha:Wd w a n cap l)(hb:Wd w b m cap' k)(ha':Wd w a' n' c' l)(hb':Wd w b' m' d' k) :
 Calls Tryz.prog 22 #[frV neg a n cap b m cap',frV neg a' n' c' b' m' d'] w (bf_ (.bool true) w):=by
 have HB:=hd_ (ab_ (aa_ w (.cells #[.bool neg,.slice a n cap,.slice b m cap'] 44)) (aa_ _ (.cells #[.bool neg,.slice a' n' c',.slice b' m' d'] 27)))
 have HA:=hd_ (ha.later HB.out)
 have HC:=hd_ (hb.later HB.out)
 have HA':=hd_ (ha'.later HB.out)
 have HC':=hd_ (hb'.later HB.out)
 obtain⟨hx1,hx2⟩:=c0_ w ((w.alloc (.cells #[.bool neg,.slice a n cap,.slice b m cap'] 44)).alloc (.cells #[.bool neg,.slice a' n' c',.slice b' m' d'] 27)) #[.bool neg,.slice a n cap,.slice b m cap'] #[.bool neg,.slice a' n' c',.slice b' m' d'] 44 27 (Below.refl _ _)
 have HX:=hd_ hx1
 have HY:=hd_ hx2
 clear ha hb ha' hb' hx1 hx2
 go_enter Tryz.func22,Tryz.ntmps22
 unfold frV
 go_wp2
 generalize ((w.alloc (.cells #[.bool neg,.slice a n cap,.slice b m cap'] 44)).alloc (.cells #[.bool neg,.slice a' n' c',.slice b' m' d'] 27))=W at *
 replace HB:=bt_ HB (dw_ W)
 replace HX:Hid (W.drew.heap[w.heap.size]? = _):=hd_ HX.out
 replace HY:Hid (W.drew.heap[w.heap.size+1]? = _):=hd_ HY.out
 replace HA:=HA.l_ (dw_ W)
 replace HC:=HC.l_ (dw_ W)
 replace HA':=HA'.l_ (dw_ W)
 replace HC':=HC'.l_ (dw_ W)
 have pSn:=ba_ HX.out HY.out
 go_region_held3 (fun w'=>w'.cell? ⟨w.heap.size,0,none⟩=some (.bool neg)∧w'.cell? ⟨w.heap.size,1,none⟩=some (.slice a n cap)∧w'.cell? ⟨w.heap.size,2,none⟩=some (.slice b m cap')∧w'.cell? ⟨w.heap.size+1,0,none⟩=some (.bool neg)∧w'.cell? ⟨w.heap.size+1,1,none⟩=some (.slice a' n' c')∧w'.cell? ⟨w.heap.size+1,2,none⟩=some (.slice b' m' d')) (exact pSn)
  (first
  | (go_at_call 73;(first
    | (refine (t8_ neg a n cap b m cap' _).mono ?_;rintro e wp1 ⟨rfl,b⟩;replace HB:=bt_ HB b;replace HX:=bl_ HX b;replace HY:=bl_ HY b;replace HA:=HA.l_ b;replace HC:=HC.l_ b;replace HA':=HA'.l_ b;replace HC':=HC'.l_ b;clear b;clear pSn;have pSn:=ba_ HX.out HY.out;have pM1:=True.intro)))
  | (go_at_call 72;(first
    | (have pm1:=pM1;refine (nk_ neg a n cap b m cap' l k a' n' c' b' m' d' _ HA.out HC.out HA'.out HC'.out).mono ?_;rintro e wp2 ⟨rfl,b⟩;replace HB:=bt_ HB b;replace HX:=bl_ HX b;replace HY:=bl_ HY b;replace HA:=HA.l_ b;replace HC:=HC.l_ b;replace HA':=HA'.l_ b;replace HC':=HC'.l_ b;clear b;clear pSn;have pSn:=ba_ HX.out HY.out;clear pM1 pm1;have pM2:=True.intro))))
 go_wp2
 go_ret
 exact⟨rfl,HB.out⟩
theorem l2_{P:Program}(w:World){o:Oper}{a:Act}{K:Act→World→Prop}{Q:Exit→Act→World→Prop}(s x:Operand)(t:TypeId)
 (ho:o.op=.call { callee:=.builtin .append,args:=#[s,x],argTypes:=#[t,t] })
 (base:Nat) (e:TypeId) (i:TypeInfo) (z:Value) (size bytes:Nat) (ht:P.underlying t=some (.slice e)) (hi:P.info? e=some i) (hz:i.zero=some z)
 (hsize:i.size=size) (hby:i.bytes=bytes) (hzs:z.cells.size=size) (hsz:0 < size)
 (v:Value) (n:Nat) (xs:List Value) (hs:a.eval s=v) (hown:w.ownsRow base e size v n xs)
 (ad:Addr) (m c:Nat) (news:List Value) (hx:a.eval x=.slice (some ad) m c) (hl:news.length=m * size) (hnews:∀j u,news[j]? = some u→w.cell? (ad.add j)=some u) (h1:∀u∈news,u.oneCell'=true)
 (h63:n+m≤maxLen) (hbytes:(n+m) * bytes≤140737488355328) (hbase:base≤w.heap.size) (hm:0 < m) (hcl:clean w v) (hzc:c9_ z.cells.toList) (hnc:c9_ news) (hxc:c9_ xs)
 (h:∀v' w',w'.ownsRow base e size v' (n+m) (xs ++ news)→w.grownBy w' v.ownBlock→clean w' v'→K (a.put o.dst v') w'):o.wp P a w K Q:=by
 obtain⟨v',w',hr,h2,h3,h4⟩:=run_append_own (P:=P) w base t o.type e i z size bytes ht hi hz hsize hby hzs hsz v n xs hown ad m c news hl hnews h1 h63 hbytes hbase
 have h5:clean w' v':=by
  subst hsize hby
  rcases hown.2 with ⟨rfl,rfl⟩ | ⟨g,cap,cur,rfl,hbg,hg,hnc',hcm,hcs,htake⟩
  ·have er:=run_append_nil (P:=P) w t o.type e i z ht hi hz ad m c news hl hnews hm (by simp only[maxLen] at h63;omega) (by simp only[Nat.zero_add] at hbytes;omega)
   rw[er] at hr
   simp only[Result.ok.injEq] at hr
   obtain⟨rfl,rfl⟩:=hr
   exact cq_ (heap_alloc_new w.drew _) (by simp only[Array.toList_append];exact bq_ hnc (dn_ hzc _))
  ·by_cases hroom:n+m≤cap
   ·have er:=run_append_room (P:=P) w t o.type e i ht hi g n cap cur hg ad m c news hl hnews h1 hroom (by rw[hl,hcs,←Nat.add_mul];exact Nat.mul_le_mul_right _ hroom)
    rw[er] at hr
    simp only[Result.ok.injEq] at hr
    obtain⟨rfl,rfl⟩:=hr
    have hcu:c9_ cur.toList:=fun u hu k e2=>by
     obtain⟨j,hj,e3⟩:=List.getElem_of_mem hu
     refine hcl g rfl j k ?_
     rw[cell_of_row w g j cur e (0,0) hg,←e2,←e3]
     simp
    refine cq_ (setRow_heap w g cur _ e _ hg) ?_
    refine bq_ (bq_ (fun u hu=>hcu u (List.mem_of_mem_take hu)) hnc) (fun u hu=>hcu u (List.mem_of_mem_drop hu))
   ·have holds:∀j u,xs[j]? = some u→w.cell? ((⟨g,0,none⟩:Addr).add j)=some u:=hown.cells (g:=g) rfl
    have er:=run_append_grow (P:=P) w t o.type e i z ht hi hz ⟨g,0,none⟩ n cap xs hown.1 holds ad m c news hl hnews (by omega) (by simp only[maxLen] at h63;omega) (growslice_fits (by omega) hbytes)
    rw[er] at hr
    simp only[Result.ok.injEq] at hr
    obtain⟨rfl,rfl⟩:=hr
    exact cq_ (heap_alloc_new w.drew _) (by simp only[Array.toList_append];exact bq_ (bq_ hxc hnc) (dn_ hzc _))
 unfold Oper.wp execOp
 simp only[ho,resolve,invoke,builtin,Sem.run_bind,Sem.run_pure,Result.andThen_ok,List.map_toArray,List.map_cons,List.map_nil,hs,hx,hr]
 exact h v' w' h2 h3 h5
theorem ew_{P:Program}{ops:Array Oper}{o:Oper}{act:Act}{w:World}{K:Act→World→Prop}{Q:Exit→Act→World→Prop}{E:Prop}(hgd:o.guard=none)(s x:Operand)(t:TypeId)
 (ho:o.op=.call { callee:=.builtin .append,args:=#[s,x],argTypes:=#[t,t] })
 (base:Nat) (e:TypeId) (i:TypeInfo) (ht:P.underlying t=some (.slice e)) (hi:P.info? e=some i) (hz:i.zero=some (.agg #[.bool false,.slice none 0 0,.slice none 0 0]))
 (hsize:i.size=3) (hby:i.bytes=56) (v:Value) (qs:LR_) (hs:act.eval s=v) (hrow:Row w base e v qs)
 (ad:Addr) (q:Rat) (a:OA_) (n c:Nat) (b:OA_) (m d:Nat) (hx:act.eval x=.slice (some ad) 1 1)
 (hnews:∀j u,(rx q a n c b m d).cells[j]? = some u→w.cell? (ad.add j)=some u) (ha:Wd w a n c (dg q.num.natAbs)) (hb:Wd w b m d (dg q.den))
 (hlen:qs.length≤1000000) (hbase:base≤w.heap.size)
 (h:∀v' w',Row w' base e v' (qs ++ [q])→w.grownBy w' v.ownBlock→(∀k,v.ownBlock=some k→base≤k)→clean w v→K (act.put o.dst v') w'):if Region.wanted o (yielded ops act.tmps)=true then Oper.wp P o act w K Q else E:=by
 have hwt:Region.wanted o (yielded ops act.tmps)=true:=by simp[Region.wanted,hgd]
 rw[if_pos hwt]
 obtain⟨L,h1,h2,h3⟩:=hrow
 have hl:L.length=qs.length:=by rw[←h2,List.length_map]
 have hzw:c9_ (Value.agg #[.bool false,.slice none 0 0,.slice none 0 0]).cells.toList:=by
  intro u hu k
  simp[Value.cells] at hu
  rcases hu with rfl | rfl <;> simp
 refine l2_ w s x t ho base e i (.agg #[.bool false,.slice none 0 0,.slice none 0 0]) 3 56 ht hi hz hsize hby rfl (by decide) v L.length (L.flatMap Fx.cells) hs h1.1 ad 1 1 (rx q a n c b m d).cells hx rfl hnews (ht_ _) (by unfold maxLen;omega) (by omega) hbase (by decide) h1.2 hzw (fo_ _) (dm_ _) ?_
 intro v' w' hown hgrow hcl
 refine h v' w' ⟨L ++ [rx q a n c b m d],⟨by simpa [List.flatMap_append] using hown,hcl⟩,by rw[List.map_append,h2];simp[rx_q],fun y hy=>?_⟩ hgrow (fun k hk=>h1.base k hk) h1.2
 rcases List.mem_append.1 hy with hy | hy
 ·exact⟨Fx.aside (h3 y hy).1 h1.2 hgrow,(h3 y hy).2⟩
 ·rw[List.mem_singleton.1 hy]
  exact⟨⟨ha.aside h1.2 hgrow,hb.aside h1.2 hgrow⟩,dr_ _ _ _ _ _ _ _⟩
theorem c4_{w:World}{A0:Nat}{c0_0 c0_1:Value}{t0:TypeId}(h0:w.heap[A0]? = some (.cells #[c0_0,c0_1] t0 (0,0))):w.cell? ⟨A0,0,none⟩=some c0_0∧w.cell? ⟨A0,1,none⟩=some c0_1:=⟨ad_ h0 0,ad_ h0 1⟩
theorem ao_{w:World}{A0:Nat}{c0_0 c0_1 c0_2:Value}{t0:TypeId}(h0:w.heap[A0]? = some (.cells #[c0_0,c0_1,c0_2] t0 (0,0))):w.cell? ⟨A0,0,none⟩=some c0_0∧w.cell? ⟨A0,1,none⟩=some c0_1∧w.cell? ⟨A0,2,none⟩=some c0_2:=⟨ad_ h0 0,ad_ h0 1,ad_ h0 2⟩
theorem bh_{w:World}{A0 A1:Nat}{c0_0 c0_1 c1_0 c1_1:Value}{t0 t1:TypeId}(h0:w.heap[A0]? = some (.cells #[c0_0,c0_1] t0 (0,0)))(h1:w.heap[A1]? = some (.cells #[c1_0,c1_1] t1 (0,0))):w.cell? ⟨A0,0,none⟩=some c0_0∧w.cell? ⟨A0,1,none⟩=some c0_1∧w.cell? ⟨A1,0,none⟩=some c1_0∧w.cell? ⟨A1,1,none⟩=some c1_1:=⟨ad_ h0 0,ad_ h0 1,ad_ h1 0,ad_ h1 1⟩
theorem cb_{w:World}{A0 A1:Nat}{c0_0 c0_1 c1_0 c1_1 c1_2:Value}{t0 t1:TypeId}(h0:w.heap[A0]? = some (.cells #[c0_0,c0_1] t0 (0,0)))(h1:w.heap[A1]? = some (.cells #[c1_0,c1_1,c1_2] t1 (0,0))):w.cell? ⟨A0,0,none⟩=some c0_0∧w.cell? ⟨A0,1,none⟩=some c0_1∧w.cell? ⟨A1,0,none⟩=some c1_0∧w.cell? ⟨A1,1,none⟩=some c1_1∧w.cell? ⟨A1,2,none⟩=some c1_2:=⟨ad_ h0 0,ad_ h0 1,ad_ h1 0,ad_ h1 1,ad_ h1 2⟩
theorem bc_{w:World}{A0 A1:Nat}{c0_0 c0_1 c0_2 c1_0 c1_1 c1_2:Value}{t0 t1:TypeId}(h0:w.heap[A0]? = some (.cells #[c0_0,c0_1,c0_2] t0 (0,0)))(h1:w.heap[A1]? = some (.cells #[c1_0,c1_1,c1_2] t1 (0,0))):w.cell? ⟨A0,0,none⟩=some c0_0∧w.cell? ⟨A0,1,none⟩=some c0_1∧w.cell? ⟨A0,2,none⟩=some c0_2∧w.cell? ⟨A1,0,none⟩=some c1_0∧w.cell? ⟨A1,1,none⟩=some c1_1∧w.cell? ⟨A1,2,none⟩=some c1_2:=⟨ad_ h0 0,ad_ h0 1,ad_ h0 2,ad_ h1 0,ad_ h1 1,ad_ h1 2⟩
theorem ct_{w:World}{A0 A1 A2:Nat}{c0_0 c0_1 c0_2 c1_0 c1_1 c1_2 c2_0 c2_1 c2_2:Value}{t0 t1 t2:TypeId}(h0:w.heap[A0]? = some (.cells #[c0_0,c0_1,c0_2] t0 (0,0)))(h1:w.heap[A1]? = some (.cells #[c1_0,c1_1,c1_2] t1 (0,0)))(h2:w.heap[A2]? = some (.cells #[c2_0,c2_1,c2_2] t2 (0,0))):w.cell? ⟨A0,0,none⟩=some c0_0∧w.cell? ⟨A0,1,none⟩=some c0_1∧w.cell? ⟨A0,2,none⟩=some c0_2∧w.cell? ⟨A1,0,none⟩=some c1_0∧w.cell? ⟨A1,1,none⟩=some c1_1∧w.cell? ⟨A1,2,none⟩=some c1_2∧w.cell? ⟨A2,0,none⟩=some c2_0∧w.cell? ⟨A2,1,none⟩=some c2_1∧w.cell? ⟨A2,2,none⟩=some c2_2:=⟨ad_ h0 0,ad_ h0 1,ad_ h0 2,ad_ h1 0,ad_ h1 1,ad_ h1 2,ad_ h2 0,ad_ h2 1,ad_ h2 2⟩
theorem gg_{w:World}{A0 A1 A2:Nat}{c0_0 c0_1 c1_0 c1_1 c1_2 c2_0 c2_1 c2_2:Value}{t0 t1 t2:TypeId}(h0:w.heap[A0]? = some (.cells #[c0_0,c0_1] t0 (0,0)))(h1:w.heap[A1]? = some (.cells #[c1_0,c1_1,c1_2] t1 (0,0)))(h2:w.heap[A2]? = some (.cells #[c2_0,c2_1,c2_2] t2 (0,0))):w.cell? ⟨A0,0,none⟩=some c0_0∧w.cell? ⟨A0,1,none⟩=some c0_1∧w.cell? ⟨A1,0,none⟩=some c1_0∧w.cell? ⟨A1,1,none⟩=some c1_1∧w.cell? ⟨A1,2,none⟩=some c1_2∧w.cell? ⟨A2,0,none⟩=some c2_0∧w.cell? ⟨A2,1,none⟩=some c2_1∧w.cell? ⟨A2,2,none⟩=some c2_2:=⟨ad_ h0 0,ad_ h0 1,ad_ h1 0,ad_ h1 1,ad_ h1 2,ad_ h2 0,ad_ h2 1,ad_ h2 2⟩
end Go.Proofs.YtocebjbjnfammaaGreat
