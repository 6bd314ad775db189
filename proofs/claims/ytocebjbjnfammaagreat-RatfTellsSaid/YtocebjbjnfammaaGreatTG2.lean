import Derived.Test.YtocebjbjnfammaaGreatTG1
import Derived.Laws.OwnMore
import Derived.Test.YtocebjbjnfammaaGreatRows
import Derived.IntWalk
import Derived.Deep.QuietTactic
import Derived.BigQuiet
import Derived.Deep.AppendSrc
import Derived.Deep.DeepMust
import Derived.WalkKit
import Derived.WalkSpells
import Derived.WalkLawsBesides
import Derived.Lib.BitFns
import Derived.Lib.Strings
import Derived.Lib.Slices
import Derived.Lib.Small
import Derived.Lib.Walk
set_option maxRecDepth 4096
set_option maxHeartbeats 16000000
namespace Go.Proofs.YtocebjbjnfammaaGreat
open Go.RowKit
def Flat (P:List Nat) (t:Nat):Prop:=∀k,t≤k→atw P k=0
theorem lv_:∀{l:List Nat},(∀k,atw l k=0)→val l=0
 | [],_=>rfl
 | x :: l,h=>by
   have h0:x=0:=h 0
   have h1:=lv_ (l:=l) (fun k=>h (k+1))
   rw[val,h0,h1]
theorem t6_{P:List Nat}{t:Nat}(h:Flat P t):top P t=0:=lv_ (fun k=>by rw[fn_];exact h _ (by omega))
theorem flat_lt{P:List Nat}{t:Nat}(ho:okw P)(h:Flat P t):val P < 4294967296 ^ t:=by
 have h1:=ls_ ho t
 have h2:=c2_ P t
 rw[t6_ h,Nat.mul_zero] at h2
 omega
theorem nl_{P:List Nat}{t:Nat}(h:val P < 4294967296 ^ t):top P t=0:=by
 have h2:=c2_ P t
 rcases Nat.eq_zero_or_pos (top P t) with h3 | h3
 ·exact h3
 ·have h4:4294967296 ^ t * 1≤4294967296 ^ t * top P t:=Nat.mul_le_mul_left _ h3
  omega
theorem vc_{P:List Nat}{t:Nat}(h:val P < 4294967296 ^ t):Flat P t:=fun k hk=>by
 have h1:=nl_ (P:=P) (t:=k) (Nat.lt_of_lt_of_le h (Nat.pow_le_pow_right (by decide) hk))
 rw[b6_] at h1
 omega
theorem ln_{P:List Nat}{t k y:Nat}(h:Flat P t)(hk:k < t):Flat (P.set k y) t:=fun j hj=>by
 rw[ep_ (by omega)];exact h j hj
def kr_ (P0 D P:List Nat) (i q j c b:Nat):Prop:=val P+4294967296 ^ i * (q * low D j)=val P0+4294967296 ^ (i+j) * (c+b)
theorem vk_(P0 D:List Nat)(i q:Nat):kr_ P0 D P0 i q 0 0 0:=by unfold kr_;rw[cj_];simp
theorem md_{x y k lo b r b' u v:Nat}(h1:x+4294967296 ^ k * u=y+4294967296 ^ k * r)(hs:u+4294967296 * b'=lo+b+r)(hv:v=lo+b) :
 x+4294967296 ^ k * v=y+4294967296 ^ (k+1) * b':=by
 subst hv
 have h3:4294967296 ^ k * u+4294967296 ^ k * (4294967296 * b')=4294967296 ^ k * (lo+b)+4294967296 ^ k * r:=by rw[←Nat.mul_add,hs,Nat.mul_add]
 have h4:4294967296 ^ (k+1) * b'=4294967296 ^ k * (4294967296 * b'):=by rw[Nat.pow_succ,Nat.mul_assoc]
 rw[h4]
 generalize 4294967296 ^ k * u=a1 at *
 generalize 4294967296 ^ k * r=a2 at *
 generalize 4294967296 ^ k * (4294967296 * b')=a3 at *
 generalize 4294967296 ^ k * (lo+b)=a4 at *
 omega
theorem take_step{P0 D P:List Nat}{i q j c b lo hi r b':Nat}(h:kr_ P0 D P i q j c b)(hP:i+j < P.length)(hm:lo+4294967296 * hi=atw D j * q+c)(hs:atw P (i+j)+4294967296 * b'=lo+b+r) :
 kr_ P0 D (P.set (i+j) r) i q (j+1) hi b':=by
 unfold kr_ at *
 have h1:=md_ (f1_ P (i+j) r hP) hs rfl
 have h5:4294967296 ^ i * (q * low D (j+1))=4294967296 ^ i * (q * low D j)+4294967296 ^ (i+j) * (atw D j * q):=by
  rw[dj_,Nat.mul_add,Nat.mul_add,Nat.pow_add,Nat.mul_left_comm q,Nat.mul_comm q (atw D j),←Nat.mul_assoc (4294967296 ^ i) (4294967296 ^ j)]
 have h6:4294967296 ^ (i+j) * lo+4294967296 ^ (i+j) * (4294967296 * hi)=4294967296 ^ (i+j) * (atw D j * q)+4294967296 ^ (i+j) * c:=by rw[←Nat.mul_add,hm,Nat.mul_add]
 have h7:4294967296 ^ (i+(j+1)) * (hi+b')=4294967296 ^ (i+j) * (4294967296 * hi)+4294967296 ^ (i+j+1) * b':=by
  rw[←Nat.add_assoc,Nat.mul_add,Nat.pow_succ,Nat.mul_assoc]
 have h8:4294967296 ^ (i+j) * (lo+b)=4294967296 ^ (i+j) * lo+4294967296 ^ (i+j) * b:=Nat.mul_add ..
 have h9:4294967296 ^ (i+j) * (c+b)=4294967296 ^ (i+j) * c+4294967296 ^ (i+j) * b:=Nat.mul_add ..
 rw[h5,h7]
 rw[h8] at h1
 rw[h9] at h
 generalize val (P.set (i+j) r)=a1 at *
 generalize 4294967296 ^ (i+j) * lo=a2 at *
 generalize 4294967296 ^ (i+j) * (4294967296 * hi)=a3 at *
 generalize 4294967296 ^ (i+j) * (atw D j * q)=a4 at *
 generalize 4294967296 ^ (i+j) * b=a5 at *
 generalize 4294967296 ^ (i+j) * c=a6 at *
 generalize 4294967296 ^ (i+j+1) * b'=a7 at *
 generalize 4294967296 ^ i * (q * low D j)=a8 at *
 omega
theorem take_end{P0 D P:List Nat}{i q m c b r b':Nat}(h:kr_ P0 D P i q m c b)(hD:D.length=m)(hP:i+m < P.length)(hs:atw P (i+m)+4294967296 * b'=c+b+r) :
 val (P.set (i+m) r)+4294967296 ^ i * (q * val D)=val P0+4294967296 ^ (i+m+1) * b':=by
 unfold kr_ at h
 rw[eh_ (by omega)] at h
 have h1:=md_ (f1_ P (i+m) r hP) hs rfl
 generalize val (P.set (i+m) r)=a1 at *
 generalize 4294967296 ^ (i+m) * (c+b)=a2 at *
 omega
def kp_ (P0 D P:List Nat) (i j c:Nat):Prop:=val P+4294967296 ^ (i+j) * c=val P0+4294967296 ^ i * low D j
theorem vi_(P0 D:List Nat)(i:Nat):kp_ P0 D P0 i 0 0:=by unfold kp_;rw[cj_];simp
theorem mv_{x y k r z c u d:Nat}(h1:x+4294967296 ^ k * u=y+4294967296 ^ k * r)(hs:r+4294967296 * z=c+(u+d)) :
 x+4294967296 ^ (k+1) * z=y+(4294967296 ^ k * c+4294967296 ^ k * d):=by
 have h3:4294967296 ^ k * r+4294967296 ^ k * (4294967296 * z)=4294967296 ^ k * c+(4294967296 ^ k * u+4294967296 ^ k * d):=by rw[←Nat.mul_add,hs,Nat.mul_add,Nat.mul_add]
 have h4:4294967296 ^ (k+1) * z=4294967296 ^ k * (4294967296 * z):=by rw[Nat.pow_succ,Nat.mul_assoc]
 rw[h4]
 generalize 4294967296 ^ k * u=a1 at *
 generalize 4294967296 ^ k * r=a2 at *
 generalize 4294967296 ^ k * (4294967296 * z)=a3 at *
 generalize 4294967296 ^ k * c=a4 at *
 generalize 4294967296 ^ k * d=a5 at *
 omega
theorem give_step{P0 D P:List Nat}{i j c r z:Nat}(h:kp_ P0 D P i j c)(hP:i+j < P.length)(hs:r+4294967296 * z=c+(atw P (i+j)+atw D j)):kp_ P0 D (P.set (i+j) r) i (j+1) z:=by
 unfold kp_ at *
 have h1:=mv_ (f1_ P (i+j) r hP) hs
 have h5:4294967296 ^ i * low D (j+1)=4294967296 ^ i * low D j+4294967296 ^ (i+j) * atw D j:=by rw[dj_,Nat.mul_add,Nat.pow_add,Nat.mul_assoc]
 rw[h5,←Nat.add_assoc i j 1]
 generalize val (P.set (i+j) r)=a1 at *
 generalize 4294967296 ^ (i+j+1) * z=a2 at *
 generalize 4294967296 ^ (i+j) * c=a3 at *
 generalize 4294967296 ^ (i+j) * atw D j=a4 at *
 generalize 4294967296 ^ i * low D j=a5 at *
 omega
theorem give_end{P0 D P:List Nat}{i m c r z:Nat}(h:kp_ P0 D P i m c)(hD:D.length=m)(hP:i+m < P.length)(hs:r+4294967296 * z=c+(atw P (i+m)+0)) :
 val (P.set (i+m) r)+4294967296 ^ (i+m+1) * z=val P0+4294967296 ^ i * val D:=by
 unfold kp_ at h
 rw[eh_ (by omega)] at h
 have h1:=mv_ (f1_ P (i+m) r hP) hs
 rw[Nat.mul_zero,Nat.add_zero] at h1
 generalize val (P.set (i+m) r)=a1 at *
 generalize 4294967296 ^ (i+m+1) * z=a2 at *
 generalize 4294967296 ^ (i+m) * c=a3 at *
 omega
def dz_ (u1 u0 v1 v0:Nat):Nat:=
 if v1≤u1 then 4294967295
 else if (u1 * 4294967296+u0) % v1 < (u1 * 4294967296+u0) / v1 * v0 / 4294967296 then (u1 * 4294967296+u0) / v1 - 1
 else (u1 * 4294967296+u0) / v1
theorem guess_num{u1 u0 v1 v0 p dl wl D W:Nat}(hv1:2147483648≤v1)(hv0:v0 < 4294967296)(hu0:u0 < 4294967296)(hvw:v1 < 4294967296)(hdl:dl < p)(hwl:wl < 4294967296 * p)(hD:D=v1 * (4294967296 * p)+(v0 * p+dl))(hW:W=(u1 * 4294967296+u0) * (4294967296 * p)+wl)(hlt:W < 4294967296 * D) :
 W < (dz_ u1 u0 v1 v0+1) * D∧dz_ u1 u0 v1 v0 * D≤W+D∧dz_ u1 u0 v1 v0 < 4294967296:=by
 obtain⟨X,hX⟩:∃X,X=4294967296 * p:=⟨_,rfl⟩
 rw[←hX] at hwl hD hW
 have a1:v0 * p+p≤X:=by
  have h:=Nat.mul_le_mul_right p (show v0+1≤4294967296 by omega)
  rw[Nat.add_mul,Nat.one_mul] at h
  omega
 have a2:2147483648 * X≤v1 * X:=Nat.mul_le_mul_right _ hv1
 unfold dz_
 split
 ·rename_i hle
  have a3:v1 * X≤u1 * X:=Nat.mul_le_mul_right _ hle
  have a4:(u1 * 4294967296+u0) * X=4294967296 * (u1 * X)+u0 * X:=by rw[Nat.add_mul,Nat.mul_comm u1,Nat.mul_assoc]
  generalize u0 * X=t0 at *
  generalize u1 * X=t1 at *
  generalize v1 * X=t2 at *
  generalize v0 * p=t3 at *
  refine ⟨by omega,by omega,by omega⟩
 ·rename_i hle
  obtain⟨U,hU⟩:∃U,U=u1 * 4294967296+u0:=⟨_,rfl⟩
  rw[←hU] at hW ⊢
  have hUv:U < v1 * 4294967296:=by omega
  have hq:U / v1 < 4294967296:=Nat.div_lt_of_lt_mul hUv
  have hr:U % v1 < v1:=Nat.mod_lt _ (by omega)
  have hdm:=Nat.div_add_mod U v1
  generalize U / v1=q at *
  generalize U % v1=r at *
  have e1:q * D=q * v1 * X+q * (v0 * p+dl):=by rw[hD,Nat.mul_add,Nat.mul_assoc]
  have e2:U * X=q * v1 * X+r * X:=by rw[←hdm,Nat.add_mul,Nat.mul_comm v1 q]
  have e3:q * X≤4294967295 * X:=Nat.mul_le_mul_right _ (by omega)
  have e4:r * X+X≤v1 * X:=by have:=Nat.mul_le_mul_right X (show r+1≤v1 by omega);rwa [Nat.add_mul,Nat.one_mul] at this
  have e5:q * (v0 * p+dl)≤q * X:=Nat.mul_le_mul_left _ (by omega)
  have e6:(q+1) * D=q * D+D:=by rw[Nat.add_mul,Nat.one_mul]
  split
  ·rename_i hgt
   have hq1:1≤q:=by
    rcases Nat.eq_zero_or_pos q with h0 | h0
    ·subst h0;simp at hgt
    ·exact h0
   have f1:(r+1) * 4294967296≤q * v0:=by
    have h1:r+1≤q * v0 / 4294967296:=hgt
    have h2:=Nat.div_mul_le_self (q * v0) 4294967296
    have h3:=Nat.mul_le_mul_right 4294967296 h1
    exact Nat.le_trans h3 h2
   have f2:(r+1) * X≤q * (v0 * p+dl):=by
    have h1:=Nat.mul_le_mul_right p f1
    have h2:q * v0 * p≤q * (v0 * p+dl):=by rw[Nat.mul_assoc];exact Nat.mul_le_mul_left _ (by omega)
    rw[hX,←Nat.mul_assoc]
    omega
   rw[Nat.add_mul,Nat.one_mul] at f2
   have f3:(q - 1+1) * D=q * D:=by rw[Nat.sub_add_cancel hq1]
   have f4:(q - 1) * D+D=q * D:=by rw[←f3,Nat.add_mul,Nat.one_mul]
   rw[f3]
   generalize (q - 1) * D=y0 at *
   generalize q * D=y1 at *
   generalize q * v1 * X=y2 at *
   generalize q * (v0 * p+dl)=y3 at *
   generalize U * X=y4 at *
   generalize r * X=y5 at *
   generalize q * X=y6 at *
   generalize v1 * X=y7 at *
   generalize v0 * p=y8 at *
   refine ⟨by omega,by omega,by omega⟩
  ·rename_i hgt
   have f1:q * v0 < (r+1) * 4294967296:=by
    have h1:q * v0 / 4294967296 < r+1:=by omega
    exact (Nat.div_lt_iff_lt_mul (by decide)).1 h1
   have f2:q * (v0 * p+dl)≤(r+2) * X:=by
    have h1:q * (v0 * p+dl)≤q * (v0 * p+p):=Nat.mul_le_mul_left _ (by omega)
    have h2:q * (v0 * p+p)=(q * v0+q) * p:=by rw[Nat.mul_add,Nat.add_mul,Nat.mul_assoc]
    have h3:(q * v0+q) * p≤((r+2) * 4294967296) * p:=Nat.mul_le_mul_right _ (by omega)
    rw[hX,←Nat.mul_assoc]
    omega
   rw[Nat.add_mul] at f2
   generalize (q+1) * D=y0 at *
   generalize q * D=y1 at *
   generalize q * v1 * X=y2 at *
   generalize q * (v0 * p+dl)=y3 at *
   generalize U * X=y4 at *
   generalize r * X=y5 at *
   generalize q * X=y6 at *
   generalize v1 * X=y7 at *
   generalize v0 * p=y8 at *
   refine ⟨by omega,by omega,by omega⟩
theorem vv_{P D:List Nat}{i m:Nat}(hP:okw P)(hD:okw D)(hm:D.length=m+2)(hF:Flat P (i+m+3))(hv:2147483648≤atw D (m+1))(hlt:val P < 4294967296 ^ (i+1) * val D) :
 top P i < (dz_ (atw P (i+m+2)) (atw P (i+m+1)) (atw D (m+1)) (atw D m)+1) * val D∧dz_ (atw P (i+m+2)) (atw P (i+m+1)) (atw D (m+1)) (atw D m) * val D≤top P i+val D∧dz_ (atw P (i+m+2)) (atw P (i+m+1)) (atw D (m+1)) (atw D m) < 4294967296:=by
 refine guess_num (p:=4294967296 ^ m) (dl:=low D m) (wl:=low (P.drop i) (m+1)) hv (bi_ hD m) (bi_ hP _) (bi_ hD _) (ls_ hD m) (by rw[←cg_];exact ls_ (lo_ hP i) _) ?_ ?_ ?_
 ·have h1:=c2_ D m
  rw[b6_,b6_,fl_ (l:=D) (i:=m+1+1) (by omega)] at h1
  rw[h1,←cg_,Nat.pow_succ]
  generalize 4294967296 ^ m=X
  rw[Nat.mul_add,Nat.mul_zero,Nat.add_zero,Nat.mul_comm X (atw D m),←Nat.mul_assoc X,Nat.mul_comm (X * 4294967296)]
  omega
 ·have h1:=c2_ (P.drop i) (m+1)
  have h2:top (P.drop i) (m+3)=0:=by
   have:top (P.drop i) (m+3)=top P (i+m+3):=by unfold top;rw[List.drop_drop,Nat.add_assoc]
   rw[this,t6_ hF]
  rw[b6_,b6_,h2,fn_,fn_] at h1
  show val (P.drop i)=_
  rw[h1,←cg_,←Nat.add_assoc,show i+(m+1+1)=i+m+2 by omega]
  generalize 4294967296 ^ (m+1)=X
  rw[Nat.mul_comm X]
  have e:atw P (i+m+1)+4294967296 * (atw P (i+m+2)+4294967296 * 0)=atw P (i+m+2) * 4294967296+atw P (i+m+1):=by omega
  rw[e]
  omega
 ·have h1:=c2_ P i
  rcases Nat.lt_or_ge (top P i) (4294967296 * val D) with h2 | h2
  ·exact h2
  ·have h3:=Nat.mul_le_mul_left (4294967296 ^ i) h2
   rw[←Nat.mul_assoc,Nat.mul_comm _ 4294967296,←cg_] at h3
   generalize 4294967296 ^ (i+1) * val D=y1 at *
   generalize 4294967296 ^ i * top P i=y2 at *
   omega
def vf_ (P D P':List Nat) (i q:Nat):Prop:=val P'+4294967296 ^ i * (q * val D)=val P∧val P' < 4294967296 ^ i * val D
theorem of_{P:List Nat}(hP:okw P){i x:Nat}(h:top P i < x):val P < 4294967296 ^ i * x:=by
 have h1:=c2_ P i
 have h2:=ls_ hP i
 have h3:=Nat.mul_le_mul_left (4294967296 ^ i) (show top P i+1≤x from h)
 rw[Nat.mul_add,Nat.mul_one] at h3
 generalize 4294967296 ^ i * top P i=y1 at *
 generalize 4294967296 ^ i * x=y2 at *
 generalize 4294967296 ^ i=y3 at *
 omega
theorem taken_yes{P D P1:List Nat}{i m g:Nat}(hP:okw P)(hlow:top P i < (g+1) * val D)(h1:val P1+4294967296 ^ i * (g * val D)=val P+4294967296 ^ (i+m+1) * 0):vf_ P D P1 i g:=by
 rw[Nat.mul_zero,Nat.add_zero] at h1
 have h2:=of_ hP hlow
 rw[Nat.add_mul,Nat.one_mul,Nat.mul_add] at h2
 unfold vf_
 generalize 4294967296 ^ i * (g * val D)=y1 at *
 generalize 4294967296 ^ i * val D=y2 at *
 exact⟨h1,by omega⟩
theorem vb_{P D P1 P2:List Nat}{i m g c:Nat}(hP:okw P)(hP1:val P1 < 4294967296 ^ (i+m+1))(hP2:val P2 < 4294967296 ^ (i+m+1))(hhigh:g * val D≤top P i+val D)(hc:c≤1)
 (h1:val P1+4294967296 ^ i * (g * val D)=val P+4294967296 ^ (i+m+1) * 1) (h2:val P2+4294967296 ^ (i+m+1) * c=val P1+4294967296 ^ i * val D):1≤g∧vf_ P D P2 i (g - 1):=by
 have h3:=c2_ P i
 have hgt:top P i < g * val D:=by
  rcases Nat.lt_or_ge (top P i) (g * val D) with h | h
  ·exact h
  ·have h4:=Nat.mul_le_mul_left (4294967296 ^ i) h
   omega
 have hg:1≤g:=by
  rcases Nat.eq_zero_or_pos g with h | h
  ·subst h;simp at hgt
  ·exact h
 have e1:(g - 1) * val D+val D=g * val D:=by
  have:(g - 1+1) * val D=g * val D:=by rw[Nat.sub_add_cancel hg]
  rwa [Nat.add_mul,Nat.one_mul] at this
 have e2:4294967296 ^ i * ((g - 1) * val D)+4294967296 ^ i * val D=4294967296 ^ i * (g * val D):=by rw[←Nat.mul_add,e1]
 have e3:4294967296 ^ i * ((g - 1) * val D)≤4294967296 ^ i * top P i:=Nat.mul_le_mul_left _ (by omega)
 have e4:=of_ hP hgt
 have hc1:c=1:=by
  rcases Nat.eq_zero_or_pos c with h | h
  ·subst h
   generalize 4294967296 ^ (i+m+1)=E at *
   generalize 4294967296 ^ i * ((g - 1) * val D)=y1 at *
   generalize 4294967296 ^ i * (g * val D)=y2 at *
   generalize 4294967296 ^ i * val D=y3 at *
   generalize 4294967296 ^ i * top P i=y4 at *
   omega
  ·omega
 subst hc1
 refine ⟨hg,?_,?_⟩
 ·generalize 4294967296 ^ (i+m+1)=E at *
  generalize 4294967296 ^ i * ((g - 1) * val D)=y1 at *
  generalize 4294967296 ^ i * (g * val D)=y2 at *
  generalize 4294967296 ^ i * val D=y3 at *
  generalize 4294967296 ^ i * top P i=y4 at *
  omega
 ·generalize 4294967296 ^ (i+m+1)=E at *
  generalize 4294967296 ^ i * ((g - 1) * val D)=y1 at *
  generalize 4294967296 ^ i * (g * val D)=y2 at *
  generalize 4294967296 ^ i * val D=y3 at *
  generalize 4294967296 ^ i * top P i=y4 at *
  omega
def p9_ (A:Nat) (D Q P:List Nat) (k:Nat):Prop:=val P+val Q * val D=A∧val P < 4294967296 ^ k * val D∧∀j,j < k→atw Q j=0
theorem long_step{A:Nat}{D Q P P':List Nat}{i q:Nat}(h:p9_ A D Q P (i+1))(hQ:i < Q.length)(ht:vf_ P D P' i q):p9_ A D (Q.set i q) P' i:=by
 refine ⟨?_,ht.2,fun j hj=>by rw[ep_ (by omega)];exact h.2.2 j (by omega)⟩
 have h1:=f1_ Q i q hQ
 rw[h.2.2 i (by omega),Nat.mul_zero,Nat.add_zero] at h1
 have h2:=h.1
 have h3:=ht.1
 have e:4294967296 ^ i * q * val D=4294967296 ^ i * (q * val D):=Nat.mul_assoc ..
 rw[h1,Nat.add_mul,e]
 omega
theorem long_end{A:Nat}{D Q P:List Nat}(h:p9_ A D Q P 0):val Q=A / val D∧val P=A % val D:=by
 have h1:=h.1
 have h2:=h.2.1
 rw[Nat.pow_zero,Nat.one_mul] at h2
 have h3:A=val P+val D * val Q:=by rw[Nat.mul_comm];exact h1.symm
 rw[h3,Nat.add_mul_div_left _ _ (by omega),Nat.div_eq_of_lt h2,Nat.add_mul_mod_self_left,Nat.mod_eq_of_lt h2]
 omega
theorem norm_top{b m s:Nat}(hm:(dg b).length=m+1)(hs:s=32 - blen (atw (dg b) m)):s < 32∧(dg (b * 2 ^ s)).length=m+1∧2147483648≤atw (dg (b * 2 ^ s)) m:=by
 have hr:atw (dg b) m≠0:=by
  have:=t0_ (l:=dg b) (cz_ b)
  rw[a3_,hm] at this
  simpa using this
 have ht:top (dg b) (m+1)=0:=fl_ (by omega)
 have h1:=lq_ (cz_ b) ht hr
 rw[a3_] at h1
 have h2:blen (atw (dg b) m)≤32:=blen_le.2 (bi_ (cz_ b) m)
 have h3:=lr_ hr
 have hb:b≠0:=by
  intro e;subst e;rw[cu_] at hm;simp at hm
 have h4:=blen_mul (n:=s) hb
 have h5:blen (b * 2 ^ s)=32 * (m+1):=by omega
 have h6:(dg (b * 2 ^ s)).length=m+1:=by rw[lu_,h5];omega
 refine ⟨by omega,h6,?_⟩
 have hr2:atw (dg (b * 2 ^ s)) m≠0:=by
  have:=t0_ (l:=dg (b * 2 ^ s)) (cz_ _)
  rw[a3_,h6] at this
  simpa using this
 have h7:=lq_ (cz_ (b * 2 ^ s)) (fl_ (l:=dg (b * 2 ^ s)) (i:=m+1) (by omega)) hr2
 rw[a3_,h5] at h7
 have h8:=si_ hr2
 rw[show blen (atw (dg (b * 2 ^ s)) m) - 1=31 by omega] at h8
 exact h8
theorem ve_{A n m:Nat}{D:List Nat}(hA:(dg A).length+1=n+(m+1))(hD:D.length=m+1)(hv:2147483648≤atw D m):p9_ A D (List.replicate n 0) (dg A ++ [0]) n:=by
 refine ⟨?_,?_,fun j _=>qp_ n j⟩
 ·rw[fg_,Nat.zero_mul,ev_,a3_];omega
 ·have h1:val (dg A ++ [0])=A:=by rw[ev_,a3_];omega
  rw[h1]
  have h2:=cx_ A
  rw[show (dg A).length=n+m by omega,Nat.pow_add] at h2
  have h3:=c2_ D m
  rw[b6_,fl_ (l:=D) (i:=m+1) (by omega)] at h3
  have h4:4294967296 ^ m * 1≤4294967296 ^ m * (atw D m+4294967296 * 0):=Nat.mul_le_mul_left _ (by omega)
  have h5:=Nat.mul_le_mul_left (4294967296 ^ n) (show 4294967296 ^ m≤val D by omega)
  omega
theorem mh_(a b s:Nat):a * 2 ^ s / (b * 2 ^ s)=a / b∧a * 2 ^ s % (b * 2 ^ s) / 2 ^ s=a % b:=by
 have hp:=Nat.two_pow_pos s
 exact⟨Nat.mul_div_mul_right _ _ hp,by rw[Nat.mul_mod_mul_right,Nat.mul_div_cancel _ hp]⟩
def rb_ (x:Nat) (L Q:List Nat) (k r:Nat):Prop:=top L k=top Q k * x+r∧r < x∧(∀j,j < k→atw Q j=atw L j)∧Q.length=L.length
theorem top_set{Q:List Nat}{i y:Nat}:top (Q.set i y) (i+1)=top Q (i+1):=by
 unfold top;rw[List.drop_set_of_lt (by omega)]
theorem word_down{x i r:Nat}{L Q:List Nat}(h:rb_ x L Q (i+1) r)(hx:0 < x)(hi:i < Q.length):rb_ x L (Q.set i ((r * 4294967296+atw L i) / x)) i ((r * 4294967296+atw L i) % x):=by
 obtain⟨h1,h2,h3,h4⟩:=h
 refine ⟨?_,Nat.mod_lt _ hx,fun j hj=>by rw[ep_ (by omega)];exact h3 j (by omega),by rw[List.length_set];exact h4⟩
 have e:atw (Q.set i ((r * 4294967296+atw L i) / x)) i=(r * 4294967296+atw L i) / x:=by
  unfold atw;rw[List.getD_eq_getElem?_getD,List.getElem?_set_self hi];rfl
 have hd:=Nat.div_add_mod (r * 4294967296+atw L i) x
 rw[b6_ L,b6_ (Q.set i _),e,top_set,h1,Nat.add_mul,Nat.mul_comm ((r * 4294967296+atw L i) / x) x,Nat.mul_assoc 4294967296]
 generalize x * ((r * 4294967296+atw L i) / x)=y1 at *
 generalize top Q (i+1) * x=y2 at *
 omega
theorem word_end{A x r:Nat}{L Q:List Nat}(h:rb_ x L Q 0 r)(hA:val L=A):val Q=A / x∧r=A % x:=by
 obtain⟨h1,h2,_,_⟩:=h
 rw[ek_,ek_,hA] at h1
 rw[h1,Nat.mul_comm,Nat.mul_add_div (by omega),Nat.mul_add_mod,Nat.div_eq_of_lt h2,Nat.mod_eq_of_lt h2]
 omega
def whV (neg:Bool) (a:OA_) (n cap:Nat):Value:=.agg #[.bool neg,.slice a n cap]
def zval (neg:Bool) (v:Nat):Int:=if neg=true then -(v:Int) else (v:Int)
def zneg (z:Int):Bool:=decide (z < 0)
theorem h9_(neg:Bool)(v:Nat):zneg (zval neg v)=(neg && decide (v≠0)):=by
 unfold zneg zval
 cases neg with
 | false=>simp
 | true=>
   by_cases h:v=0
   ·subst h;rfl
   ·rw[if_pos rfl,decide_eq_true h,decide_eq_true (by omega)];rfl
theorem d0_(neg:Bool)(v:Nat):(zval neg v).natAbs=v:=by unfold zval;cases neg <;> simp
theorem hp_(z:Int):zval (zneg z) z.natAbs=z:=by
 unfold zval zneg
 by_cases h:z < 0
 ·rw[decide_eq_true h,if_pos rfl];omega
 ·rw[decide_eq_false h,if_neg (by simp)];omega
def LstZ (z:Int) (w:World) (e:Ending) (w':World):Prop:=
 ∃(a:OA_) (n cap:Nat),e=.returned (whV (zneg z) a n cap)∧Wd w' a n cap (dg z.natAbs)∧Below w.heap.size w w'
theorem ad_{w:World}{g:Nat}{cur:Array Value}{t:TypeId}(h:w.heap[g]? = some (.cells cur t (0,0)))(j:Nat):w.cell? ⟨g,j,none⟩=cur[j]?:=cell_of_row w g j cur t (0,0) h
theorem ae_{w:World}{g:Nat}{cur:Array Value}{t:TypeId}(h:w.heap[g]? = some (.cells cur t (0,0)))(j:Nat):w.frozen? ⟨g,j,none⟩=false:=frozen_of_row w g j cur t h
theorem ai_(w:World)(cur:Array Value)(t:TypeId):(w.alloc (.cells cur t)).heap[w.heap.size]? = some (.cells cur t (0,0)):=heap_alloc_new w _
theorem ac_{w w':World}{g:Nat}{o:Obj}(h:w.heap[g]? = some o)(hb:Below w.heap.size w w'):w'.heap[g]? = some o:=(hb.block g (Array.getElem?_eq_some_iff.1 h).1).trans h
theorem al_(w:World)(o:Obj):(w.alloc o).heap.size=w.heap.size+1:=by simp
theorem Wd.stored{w:World}{a:Option Addr}{n cap:Nat}{l:List Nat}(h:Wd w a n cap l){g:Nat}{cur:Array Value}{t:TypeId}(hg:w.heap[g]? = some (.cells cur t (0,0)))(hc:∀(j:Nat) (k:Int),cur[j]?≠some (.int .u32 k))(i:Nat)(u:Value):Wd (w.setCell ⟨g,i,none⟩ u) a n cap l:=by
 refine ⟨h.1,h.2.1,h.2.2.1,h.2.2.2.1,h.2.2.2.2.1,h.2.2.2.2.2.imp id fun ⟨b,off,e,hcl⟩=>⟨b,off,e,fun j hj=>?_⟩⟩
 have h1:=hcl j hj
 have hne:b≠g:=fun e2=>by
  subst e2
  rw[ad_ hg] at h1
  exact hc _ _ h1
 rw[World.cell?_of_block (w:=w) (Below.heap_setCell _ _ _ _ (by exact hne))]
 exact h1
theorem gp_{w:World}{g:Nat}{cur:Array Value}{t:TypeId}(h:w.heap[g]? = some (.cells cur t (0,0)))(i:Nat)(u:Value):(w.setCell ⟨g,i,none⟩ u).heap[g]? = some (.cells (cur.setIfInBounds i u) t (0,0)):=heap_setCell_same w g i cur t u h
theorem bj_{w:World}{g:Nat}{x y:Value}{t:TypeId}(h:w.heap[g]? = some (.cells #[x,y] t (0,0)))(u v:Value):((w.setCell ⟨g,0,none⟩ u).setCell ⟨g,1,none⟩ v).heap[g]? = some (.cells #[u,v] t (0,0)):=by
 have h1:=gp_ (gp_ h 0 u) 1 v
 simpa using h1
theorem uk_{b:Bool}{a:Option Addr}{n cap:Nat}:∀(j:Nat) (k:Int),(#[Value.bool b,.slice a n cap]:Array Value)[j]?≠some (.int .u32 k):=by
 intro j k
 match j with
 | 0=>simp
 | 1=>simp
 | j+2=>simp
theorem Wd.stored2{w:World}{a:Option Addr}{n cap:Nat}{l:List Nat}(h:Wd w a n cap l){g:Nat}{b:Bool}{x:Option Addr}{y z:Nat}{t:TypeId}(hg:w.heap[g]? = some (.cells #[.bool b,.slice x y z] t (0,0)))(c:Bool)(v:Value):Wd ((w.setCell ⟨g,0,none⟩ (.bool c)).setCell ⟨g,1,none⟩ v) a n cap l:=by
 have h1:=h.stored hg uk_ 0 (.bool c)
 have h2:(w.setCell ⟨g,0,none⟩ (.bool c)).heap[g]? = some (.cells #[.bool c,.slice x y z] t (0,0)):=by simpa using gp_ hg 0 (.bool c)
 exact h1.stored h2 uk_ 1 v
theorem ay_{w w1:World}{g:Nat}(h:Below w.heap.size w w1)(hg:w.heap.size≤g)(u v:Value):Below w.heap.size w ((w1.setCell ⟨g,0,none⟩ u).setCell ⟨g,1,none⟩ v):=(h.setCell (p:=⟨g,0,none⟩) hg u).setCell (p:=⟨g,1,none⟩) hg v
def sgn (z:Int):Int:=if z=0 then 0 else if z < 0 then -1 else 1
theorem j1_(z:Int) : -1≤sgn z∧sgn z≤1:=by unfold sgn;split <;> (try split) <;> omega
theorem th_(w w1:World)(x:Array Value)(t:TypeId)(hb:Below (w.alloc (.cells x t)).heap.size (w.alloc (.cells x t)) w1):w1.heap[w.heap.size]? = some (.cells x t (0,0)):=ac_ (ai_ w x t) hb
theorem c0_(w w1:World)(x y:Array Value)(t s:TypeId)(hb:Below ((w.alloc (.cells x t)).alloc (.cells y s)).heap.size ((w.alloc (.cells x t)).alloc (.cells y s)) w1) :
 w1.heap[w.heap.size]? = some (.cells x t (0,0))∧w1.heap[w.heap.size+1]? = some (.cells y s (0,0)):=by
 refine ⟨ac_ (ac_ (ai_ w x t) (aa_ _ _)) hb,?_⟩
 have h2:=ai_ (w.alloc (.cells x t)) y s
 rw[al_] at h2
 exact ac_ h2 hb
theorem dc_(a:OA_)(n cap k:Nat)(l:List Nat)(w:World)(h:Wd w a n cap l)(hk:k≤9223372036854775807) :
 Calls Tryz.prog 111 #[.slice a n cap,.int .i64 (k:Int)] w fun e w'=>e=.returned (.int .u32 ((atw l k:Nat):Int))∧w=w':=by
 obtain⟨hb1,hb2⟩:=h.bound
 by_cases hlt:k < n
 ·obtain⟨b,off,rfl,hc⟩:=h.at (by omega)
  have hck:=hc k hlt
  clear hc h
  go_enter Tryz.func111,Tryz.ntmps111
  go_wp2
  go_ret
  exact⟨rfl,rfl⟩
 ·have ha:atw l k=0:=it_ (by have:=h.len;omega)
  have Ha:=hd_ ha
  clear ha h
  go_enter Tryz.func111,Tryz.ntmps111
  go_wp2
  go_ret
  rw[Ha.out]
  exact⟨rfl,rfl⟩
theorem ou_(a:OA_)(n cap:Nat)(la:List Nat)(b:OA_)(m cap':Nat)(lb:List Nat)(w:World)(ha:Wd w a n cap la)(hb:Wd w b m cap' lb) :
 Calls Tryz.prog 116 #[.slice a n cap,.slice b m cap'] w fun e w'=>e=.returned (.bool (decide (la=lb)))∧∃q,w'=w.drewN q:=by
 obtain⟨hb1,hb2⟩:=ha.bound
 obtain⟨hb3,hb4⟩:=hb.bound
 have Ha:=hd_ ha
 have Hb:=hd_ hb
 clear ha hb
 by_cases hne:n=m
 ·subst hne
  go_enter Tryz.func116,Tryz.ntmps116
  go_wp2
  go_loopw [5] (fun i wr=>∃k q:Nat,k≤n∧i=.int .i64 k∧wr=w.drewN q∧Hid (∀j,j < k→atw la j=atw lb j)) (fun i _=>n - (intOf i).toNat)
  case atStart=>exact⟨0,0,by omega,rfl,rfl,hd_ (fun j hj=>by omega)⟩
  case round=>
   obtain⟨k,q,hk,rfl,rfl,Heq⟩:=hrel
   by_cases hlt:k < n
   ·obtain⟨ba,oa,rfl,hca⟩:=Ha.out.at (by omega)
    obtain⟨bb,ob,rfl,hcb⟩:=Hb.out.at (by omega)
    have hcak:=hca k hlt
    have hcbk:=hcb k hlt
    clear hca hcb
    have hk1:(0:Int)≤(k:Int):=by omega
    have hk2:(k:Int) < (n:Int):=by omega
    by_cases hx:atw la k=atw lb k
    ·have hxb:(((atw la k:Nat):Int) != ((atw lb k:Nat):Int))=false:=by simp[hx]
     have Hx:=hd_ hx
     clear hx
     go_wp2
     go_quiet (fail)
     go_wp2
     go_roundw
     case rel=>
      exact⟨k+1,_,by omega,by go_num,rfl,hd_ (fun j hj=>by
       by_cases hjk:j < k
       ·exact Heq.out j hjk
       ·obtain rfl:j=k:=by omega
        exact Hx.out)⟩
     case measure=>simp[intOf];omega
    ·have hxb:(((atw la k:Nat):Int) != ((atw lb k:Nat):Int))=true:=by simp;omega
     have Hx:=hd_ hx
     clear hx
     go_wp2
     go_quiet (fail)
     go_wp2
     go_ret
     exact⟨fp_ (decide_eq_false (ox_ Hx.out)).symm,q+nq,World.drewN_drewN ..⟩
   ·have hkn:k=n:=by omega
    have hfin:la=lb:=jz_ (by rw[Ha.out.len,Hb.out.len]) (fun j hj=>Heq.out j (by have:=Ha.out.len;omega))
    have Hfin:=hd_ hfin
    clear hkn hfin
    go_wp2
    go_ret
    exact⟨fp_ (decide_eq_true Hfin.out).symm,_,rfl⟩
 ·have hfin:la≠lb:=fun e=>hne (by rw[←Ha.out.len,←Hb.out.len,e])
  have hnb:(((n:Nat):Int) != ((m:Nat):Int))=true:=by simp;omega
  have Hfin:=hd_ hfin
  clear hfin hne
  go_enter Tryz.func116,Tryz.ntmps116
  go_wp2
  go_ret
  exact⟨fp_ (decide_eq_false Hfin.out).symm,0,rfl⟩
theorem iy_(a:OA_)(n cap:Nat)(la:List Nat)(b:OA_)(m cap':Nat)(lb:List Nat)(w:World)(ha:Wd w a n cap la)(hb:Wd w b m cap' lb)(h:la=lb) :
 Calls Tryz.prog 116 #[.slice a n cap,.slice b m cap'] w fun e w'=>e=.returned (.bool true)∧Below w.heap.size w w':=
 (ou_ a n cap la b m cap' lb w ha hb).mono fun e w' ⟨he,q,hw⟩=>⟨by rw[he,decide_eq_true h],by rw[hw];exact ec_ _ _⟩
theorem ii_:(Tryz.prog.info? 81).map (fun i=>(i.zero,i.size,i.bytes))=some (some (.int .u32 0),1,4):=by kernel_rfl
theorem fc_(a:OA_)(n cap:Nat)(l:List Nat)(w:World)(h:Wd w a n cap l)(hn:n≤17592183947266) :
 Calls Tryz.prog 56 #[.slice a n cap] w fun e w'=>∃(a':OA_) (n' cap':Nat),e=.returned (.slice a' n' cap')∧w'.ownsRow w.heap.size 81 1 (.slice a' n' cap') n' (cf_ (dg (val l)))∧Below w.heap.size w w':=by
 obtain⟨hb1,hb2⟩:=h.bound
 have H:=hd_ h
 clear h
 go_enter Tryz.func56,Tryz.ntmps56
 go_wp2
 go_loop [3] (fun i=>∃k:Nat,k≤n∧i=.int .i64 k∧Hid (top l k=0)) (fun i=>(intOf i).toNat)
 case atStart=>exact⟨n,by omega,rfl,hd_ (fl_ (by have:=H.out.len;omega))⟩
 case round=>
  obtain⟨k,hk,rfl,Ht⟩:=hrel
  cases k with
  | zero=>
    have hv:val l=0:=by rw[←ek_];exact Ht.out
    have Hv:=hd_ hv
    clear hv
    obtain⟨i0,hi,hz0,hz1,hz2⟩:=info_parts ii_
    cases a with
    | none=>
      obtain⟨rfl,rfl,rfl⟩:=H.out.ofNone
      go_wp2_with (at_builtin;refine wpList_append_own_none rfl _ _ 25 rfl w.heap.size 81 i0 1 Tryz.underlying25 hi _ 0 [] rfl (World.ownsRow_lit w #[] 0 (Nat.le_refl _) (by decide) rfl) rfl ?_)
      go_ret
      exact⟨_,_,_,rfl,by rw[Hv.out,cu_];exact World.ownsRow_lit w #[] 0 (Nat.le_refl _) (by decide) rfl,(Below.refl _ _).alloc (Nat.le_refl _) _⟩
    | some ad=>
      go_wp2_with (at_builtin;refine wpList_append_own _ rfl _ _ 25 rfl w.heap.size 81 i0 (.int .u32 0) 1 4 Tryz.underlying25 hi hz0 hz1 hz2 rfl (by decide) _ 0 [] rfl (World.ownsRow_lit w #[] 0 (Nat.le_refl _) (by decide) rfl) ad 0 cap [] rfl rfl (by intro j u hu;simp at hu) (by intro u hu;simp at hu) (by decide) (by decide) (by simp) ?_)
      intro v' w1 hown hgrow _
      obtain⟨a',cap',rfl⟩:=mk_ hown
      go_wp2
      go_ret
      refine ⟨a',0,cap',rfl,?_,?_⟩
      ·rw[Hv.out,cu_];exact hown
      ·exact ((Below.refl _ _).alloc (Nat.le_refl _) _).grown hgrow (by simp) (by intro k hk;simp[Value.ownBlock] at hk;omega)
  | succ k=>
    obtain⟨b,off,rfl,hc⟩:=H.out.at (by omega)
    have hck:=hc k (by omega)
    clear hc
    by_cases hz:atw l k=0
    ·have hzb:(((atw l k:Nat):Int) == 0)=true:=by simp[hz]
     have Hz:=hd_ hz
     clear hz
     go_wp2
     go_round
     case rel=>exact⟨k,by omega,by go_num,hd_ (by rw[b6_,Hz.out,Ht.out])⟩
     case measure=>simp[intOf]
    ·have hzb:(((atw l k:Nat):Int) == 0)=false:=by simp[hz]
     have Hz:=hd_ hz
     clear hz
     obtain⟨i0,hi,hz0,hz1,hz2⟩:=info_parts ii_
     have hT:=H.out.take hk
     have hTl:(l.take (k+1)).length=k+1:=hT.len
     have hR:l.take (k+1)=dg (val l):=gq_ (by rw[H.out.len];exact hk) H.out.ok Ht.out (.inr (by simpa using Hz.out))
     have HR:=hd_ hR
     have HT:=hd_ hT
     have HTl:=hd_ hTl
     clear hT hR hTl
     go_wp2_with (at_builtin;refine wpList_append_own _ rfl _ _ 25 rfl w.heap.size 81 i0 (.int .u32 0) 1 4 Tryz.underlying25 hi hz0 hz1 hz2 rfl (by decide) _ 0 [] rfl (World.ownsRow_lit w #[] 0 (Nat.le_refl _) (by decide) rfl) ⟨b,off,none⟩ (k+1) cap (cf_ (l.take (k+1))) rfl (by rw[b0_,HTl.out,Nat.mul_one]) (HT.out.later ((Below.refl _ _).alloc (Nat.le_refl _) _)).cells (d3_ _) (by unfold maxLen;omega) (by omega) (by simp) ?_)
     intro v' w1 hown hgrow _
     obtain⟨a',cap',rfl⟩:=mk_ hown
     go_wp2
     go_ret
     refine ⟨a',_,cap',rfl,?_,?_⟩
     ·rw[←HR.out];simpa using hown
     ·exact ((Below.refl _ _).alloc (Nat.le_refl _) _).grown hgrow (by simp) (by intro k hk;simp[Value.ownBlock] at hk;omega)
theorem du_(a:OA_)(n cap:Nat)(l:List Nat)(w:World)(h:Wd w a n cap l)(hn:n≤17592183947266) :
 Calls Tryz.prog 56 #[.slice a n cap] w fun e w'=>∃(a':OA_) (n' cap':Nat),e=.returned (.slice a' n' cap')∧Wd w' a' n' cap' (dg (val l))∧Below w.heap.size w w':=
 (fc_ a n cap l w h hn).mono fun _ _ ⟨a',n',c',he,ho,hB⟩=>⟨a',n',c',he,Wd.own ho (cz_ _),hB⟩
theorem tr_(x:Nat)(w:World)(hx:x≤18446744073709551615) :
 Calls Tryz.prog 67 #[.int .u64 (x:Int)] w fun e w'=>∃(a':OA_) (n' cap':Nat),e=.returned (.slice a' n' cap')∧Wd w' a' n' cap' (dg x)∧Below w.heap.size w w':=by
 have hv:val [x % 4294967296,x / 4294967296]=x:=by simp only[val];omega
 have Hv:=hd_ hv
 have Hlit:=hd_ (Wd.lit2 w 81 (x:=x % 4294967296) (y:=x / 4294967296) (by omega) (by omega))
 clear hv
 go_enter Tryz.func67,Tryz.ntmps67
 go_wp2_with (go_at_call 56;go_must (refine (du_ _ 2 2 _ _ Hlit.out (by omega)).mono ?_);rintro e w' ⟨a',n',cap',rfl,hwd,hbel⟩)
 go_ret
 exact⟨a',n',cap',rfl,by rw[Hv.out] at hwd;exact hwd,((Below.refl _ _).alloc (Nat.le_refl _) _).trans (hbel.mono (by simp))⟩
theorem q7_(a:OA_)(n cap:Nat)(la:List Nat)(b:OA_)(m cap':Nat)(lb:List Nat)(w:World)(ha:Wd w a n cap la)(hb:Wd w b m cap' lb)(hn:n≤17592183947264)(hm:m≤17592183947264) :
 Calls Tryz.prog 66 #[.slice a n cap,.slice b m cap'] w fun e w'=>∃(a':OA_) (n' cap':Nat),e=.returned (.slice a' n' cap')∧Wd w' a' n' cap' (dg (val la+val lb))∧Below w.heap.size w w':=by
 obtain⟨i0,hi,hz0,hz1,hz2⟩:=info_parts ii_
 have Ha:=hd_ ha
 have Hb:=hd_ hb
 clear ha hb
 by_cases hnm:n < m
 ·skip
  go_enter Tryz.func66,Tryz.ntmps66
  go_wp2_with (at_make;refine wpList_make_full _ rfl _ _ 25 rfl w.heap.size 81 i0 (.int .u32 0) 1 Tryz.underlying25 hi hz0 hz1 .i64 .i64 _ _ (m+1) rfl rfl (by omega) (by omega) (by rw[hz2];omega) (by unfold maxLen;omega) (Nat.le_refl _) ?_;intro w1 hown1 hgrow1)
  rw[f5_] at hown1
  have Hown1:=hd_ hown1
  have hB1:Below w.heap.size w w1:=(Below.refl _ _).grown hgrow1 (Nat.le_refl _) (fun k hk=>by cases hk)
  clear hown1 hgrow1
  go_loopw [7,8] (fun s i wr=>∃(k sn:Nat) (o:List Nat),k≤m+1∧i=.int .i64 k∧s=.int .u64 sn∧sn≤1∧Hid (o.length=k)∧okw o∧Hid (val o+4294967296 ^ k * sn=low la k+low lb k)∧
   Hid (wr.ownsRow w.heap.size 81 1 (.slice (some ⟨w.heap.size,0,none⟩) (m+1) (m+1)) (m+1) (cf_ (o ++ List.replicate (m+1 - k) 0)))∧Below w.heap.size w wr) (fun _ i _=>m+1 - (intOf i).toNat)
  case atStart=>exact⟨0,0,[],by omega,rfl,rfl,by omega,hd_ rfl,f3_,hd_ (by rw[cj_,cj_];rfl),Hown1,hB1⟩
  case round=>
   obtain⟨k,sn,o,hk,rfl,rfl,hsn,Ho,hok,Hv,Hown,hB⟩:=hrel
   by_cases hlt:k < m+1
   ·have HaW:=Ha.l_ hB
    have HbW:=Hb.l_ hB
    have hcell:wr.cell? ⟨w.heap.size,k,none⟩=some (.int .u32 ((atw (o ++ List.replicate (m+1 - k) 0) k:Nat):Int)):=(Hown.out.cellAt k (by omega)).trans (f7_ (by have:=Ho.out;simp;omega))
    have hfro:wr.frozen? ⟨w.heap.size,k,none⟩=false:=Hown.out.frozenAt k
    generalize atw (o ++ List.replicate (m+1 - k) 0) k=old at hcell
    have hxa:=bi_ Ha.out.ok k
    have hxb:=bi_ Hb.out.ok k
    have hk1:(k:Int) < (m:Int)+1:=by omega
    obtain⟨x,hx⟩:∃x,x=atw la k:=⟨_,rfl⟩
    obtain⟨y,hy⟩:∃y,y=atw lb k:=⟨_,rfl⟩
    rw[←hx] at hxa
    rw[←hy] at hxb
    have Hx:=hd_ hx
    have Hy:=hd_ hy
    clear hx hy
    go_wp2_with (first | (go_at_call 111;(with_reducible refine (dc_ a n cap k la _ HaW.out (by omega)).mono ?_);rintro e w' ⟨rfl,rfl⟩;rw[←Hx.out]) | (go_at_call 111;(with_reducible refine (dc_ b m cap' k lb _ HbW.out (by omega)).mono ?_);rintro e w' ⟨rfl,rfl⟩;rw[←Hy.out]))
    go_roundw
    case rel=>
     obtain⟨h1,h2⟩:=Hown.out.stored k (.int .u32 (((sn+(x+y)) % 4294967296:Nat):Int))
     rw[e3_,g3_ o (m+1) k _ Ho.out hlt] at h1
     refine ⟨k+1,(sn+(x+y)) / 4294967296,o ++ [(sn+(x+y)) % 4294967296],by omega,by go_num,by go_num,by omega,hd_ (by have:=Ho.out;simp;omega),gk_ hok (by omega),hd_ (oy_ Ho.out Hv.out (by rw[Hx.out,Hy.out])),?_,?_⟩
     ·exact hd_ (by simpa using h1)
     ·exact hB.setCell (Nat.le_refl _) _
    case measure=>simp[intOf];omega
   ·have hkn:k=m+1:=by omega
    subst hkn
    have hown:=Hown.out
    rw[Nat.sub_self,List.replicate_zero,List.append_nil] at hown
    have HW:=hd_ (Wd.own hown hok)
    have Hfin:=hd_ (add_end (N:=m) Ha.out.ok Hb.out.ok (by rw[Ha.out.len];omega) (by rw[Hb.out.len];omega) Ho.out Hv.out)
    clear hown
    go_wp2_with (go_at_call 56;(refine (du_ _ _ _ _ _ HW.out (by omega)).mono ?_);rintro e w' ⟨a',n',c',rfl,hwd,hbel⟩)
    go_ret
    exact⟨a',n',c',rfl,by rw[Hfin.out] at hwd;exact hwd,hB.trans (hbel.mono hB.size)⟩
 ·skip
  go_enter Tryz.func66,Tryz.ntmps66
  go_wp2_with (at_make;refine wpList_make_full _ rfl _ _ 25 rfl w.heap.size 81 i0 (.int .u32 0) 1 Tryz.underlying25 hi hz0 hz1 .i64 .i64 _ _ (n+1) rfl rfl (by omega) (by omega) (by rw[hz2];omega) (by unfold maxLen;omega) (Nat.le_refl _) ?_;intro w1 hown1 hgrow1)
  rw[f5_] at hown1
  have Hown1:=hd_ hown1
  have hB1:Below w.heap.size w w1:=(Below.refl _ _).grown hgrow1 (Nat.le_refl _) (fun k hk=>by cases hk)
  clear hown1 hgrow1
  go_loopw [7,8] (fun s i wr=>∃(k sn:Nat) (o:List Nat),k≤n+1∧i=.int .i64 k∧s=.int .u64 sn∧sn≤1∧Hid (o.length=k)∧okw o∧Hid (val o+4294967296 ^ k * sn=low la k+low lb k)∧
   Hid (wr.ownsRow w.heap.size 81 1 (.slice (some ⟨w.heap.size,0,none⟩) (n+1) (n+1)) (n+1) (cf_ (o ++ List.replicate (n+1 - k) 0)))∧Below w.heap.size w wr) (fun _ i _=>n+1 - (intOf i).toNat)
  case atStart=>exact⟨0,0,[],by omega,rfl,rfl,by omega,hd_ rfl,f3_,hd_ (by rw[cj_,cj_];rfl),Hown1,hB1⟩
  case round=>
   obtain⟨k,sn,o,hk,rfl,rfl,hsn,Ho,hok,Hv,Hown,hB⟩:=hrel
   by_cases hlt:k < n+1
   ·have HaW:=Ha.l_ hB
    have HbW:=Hb.l_ hB
    have hcell:wr.cell? ⟨w.heap.size,k,none⟩=some (.int .u32 ((atw (o ++ List.replicate (n+1 - k) 0) k:Nat):Int)):=(Hown.out.cellAt k (by omega)).trans (f7_ (by have:=Ho.out;simp;omega))
    have hfro:wr.frozen? ⟨w.heap.size,k,none⟩=false:=Hown.out.frozenAt k
    generalize atw (o ++ List.replicate (n+1 - k) 0) k=old at hcell
    have hxa:=bi_ Ha.out.ok k
    have hxb:=bi_ Hb.out.ok k
    have hk1:(k:Int) < (n:Int)+1:=by omega
    obtain⟨x,hx⟩:∃x,x=atw la k:=⟨_,rfl⟩
    obtain⟨y,hy⟩:∃y,y=atw lb k:=⟨_,rfl⟩
    rw[←hx] at hxa
    rw[←hy] at hxb
    have Hx:=hd_ hx
    have Hy:=hd_ hy
    clear hx hy
    go_wp2_with (first | (go_at_call 111;(with_reducible refine (dc_ a n cap k la _ HaW.out (by omega)).mono ?_);rintro e w' ⟨rfl,rfl⟩;rw[←Hx.out]) | (go_at_call 111;(with_reducible refine (dc_ b m cap' k lb _ HbW.out (by omega)).mono ?_);rintro e w' ⟨rfl,rfl⟩;rw[←Hy.out]))
    go_roundw
    case rel=>
     obtain⟨h1,h2⟩:=Hown.out.stored k (.int .u32 (((sn+(x+y)) % 4294967296:Nat):Int))
     rw[e3_,g3_ o (n+1) k _ Ho.out hlt] at h1
     refine ⟨k+1,(sn+(x+y)) / 4294967296,o ++ [(sn+(x+y)) % 4294967296],by omega,by go_num,by go_num,by omega,hd_ (by have:=Ho.out;simp;omega),gk_ hok (by omega),hd_ (oy_ Ho.out Hv.out (by rw[Hx.out,Hy.out])),?_,?_⟩
     ·exact hd_ (by simpa using h1)
     ·exact hB.setCell (Nat.le_refl _) _
    case measure=>simp[intOf];omega
   ·have hkn:k=n+1:=by omega
    subst hkn
    have hown:=Hown.out
    rw[Nat.sub_self,List.replicate_zero,List.append_nil] at hown
    have HW:=hd_ (Wd.own hown hok)
    have Hfin:=hd_ (add_end (N:=n) Ha.out.ok Hb.out.ok (by rw[Ha.out.len];omega) (by rw[Hb.out.len];omega) Ho.out Hv.out)
    clear hown
    go_wp2_with (go_at_call 56;(refine (du_ _ _ _ _ _ HW.out (by omega)).mono ?_);rintro e w' ⟨a',n',c',rfl,hwd,hbel⟩)
    go_ret
    exact⟨a',n',c',rfl,by rw[Hfin.out] at hwd;exact hwd,hB.trans (hbel.mono hB.size)⟩
theorem qw_(a:OA_)(n cap:Nat)(la:List Nat)(b:OA_)(m cap':Nat)(lb:List Nat)(w:World)(ha:Wd w a n cap la)(hb:Wd w b m cap' lb)(hn:n≤17592183947264)(hm:m≤17592183947264)(hle:Hid (val lb≤val la)) :
 Calls Tryz.prog 160 #[.slice a n cap,.slice b m cap'] w fun e w'=>∃(a':OA_) (n' cap':Nat),e=.returned (.slice a' n' cap')∧Wd w' a' n' cap' (dg (val la - val lb))∧Below w.heap.size w w':=by
 obtain⟨i0,hi,hz0,hz1,hz2⟩:=info_parts ii_
 have Ha:=hd_ ha
 have Hb:=hd_ hb
 clear ha hb
 by_cases hnm:n < m
 ·skip
  go_enter Tryz.func160,Tryz.ntmps160
  go_wp2_with (at_make;refine wpList_make_full _ rfl _ _ 25 rfl w.heap.size 81 i0 (.int .u32 0) 1 Tryz.underlying25 hi hz0 hz1 .i64 .i64 _ _ m rfl rfl (by omega) (by omega) (by rw[hz2];omega) (by unfold maxLen;omega) (Nat.le_refl _) ?_;intro w1 hown1 hgrow1)
  rw[f5_] at hown1
  have Hown1:=hd_ hown1
  have hB1:Below w.heap.size w w1:=(Below.refl _ _).grown hgrow1 (Nat.le_refl _) (fun k hk=>by cases hk)
  clear hown1 hgrow1
  go_loopw [7,8] (fun s i wr=>∃(k sn:Nat) (o:List Nat),k≤m∧i=.int .i64 k∧s=.int .u64 sn∧sn≤1∧Hid (o.length=k)∧okw o∧Hid (low la k+4294967296 ^ k * sn=low lb k+val o)∧
   Hid (wr.ownsRow w.heap.size 81 1 (.slice (some ⟨w.heap.size,0,none⟩) m m) m (cf_ (o ++ List.replicate (m - k) 0)))∧Below w.heap.size w wr) (fun _ i _=>m - (intOf i).toNat)
  case atStart=>exact⟨0,0,[],by omega,rfl,rfl,by omega,hd_ rfl,f3_,hd_ (by rw[cj_,cj_];rfl),Hown1,hB1⟩
  case round=>
   obtain⟨k,sn,o,hk,rfl,rfl,hsn,Ho,hok,Hv,Hown,hB⟩:=hrel
   by_cases hlt:k < m
   ·have HaW:=Ha.l_ hB
    have HbW:=Hb.l_ hB
    have hcell:wr.cell? ⟨w.heap.size,k,none⟩=some (.int .u32 ((atw (o ++ List.replicate (m - k) 0) k:Nat):Int)):=(Hown.out.cellAt k (by omega)).trans (f7_ (by have:=Ho.out;simp;omega))
    have hfro:wr.frozen? ⟨w.heap.size,k,none⟩=false:=Hown.out.frozenAt k
    generalize atw (o ++ List.replicate (m - k) 0) k=old at hcell
    have hxa:=bi_ Ha.out.ok k
    have hxb:=bi_ Hb.out.ok k
    have hk1:(k:Int) < (m:Int):=by omega
    obtain⟨x,hx⟩:∃x,x=atw la k:=⟨_,rfl⟩
    obtain⟨y,hy⟩:∃y,y=atw lb k:=⟨_,rfl⟩
    rw[←hx] at hxa
    rw[←hy] at hxb
    have Hx:=hd_ hx
    have Hy:=hd_ hy
    clear hx hy
    have Hset:=fun r=>Hown.out.stored k (.int .u32 ((r:Nat):Int))
    by_cases hxy:x < y+sn
    ·have hxyi:(x:Int) < (y:Int)+(sn:Int):=by omega
     go_wp2_with (first | (go_at_call 111;(with_reducible refine (dc_ a n cap k la _ HaW.out (by omega)).mono ?_);rintro e w' ⟨rfl,rfl⟩;rw[←Hx.out]) | (go_at_call 111;(with_reducible refine (dc_ b m cap' k lb _ HbW.out (by omega)).mono ?_);rintro e w' ⟨rfl,rfl⟩;rw[←Hy.out]))
     go_roundw
     case rel=>
      obtain⟨h1,h2⟩:=Hset (x+4294967296 - (y+sn))
      rw[e3_,g3_ o m k _ Ho.out hlt] at h1
      have e:(((x+4294967296 - (y+sn):Nat)):Int)=(x:Int)+4294967296 - ((y:Int)+(sn:Int)):=by omega
      rw[e] at h1
      exact⟨k+1,1,o ++ [x+4294967296 - (y+sn)],by omega,by go_num,rfl,by omega,hd_ (by have:=Ho.out;simp;omega),gk_ hok (by omega),hd_ (io_ Ho.out Hv.out (by rw[←Hx.out,←Hy.out];omega)),hd_ h1,hB.setCell (Nat.le_refl _) _⟩
     case measure=>simp[intOf];omega
    ·have hxyi:(y:Int)+(sn:Int)≤(x:Int):=by omega
     go_wp2_with (first | (go_at_call 111;(with_reducible refine (dc_ a n cap k la _ HaW.out (by omega)).mono ?_);rintro e w' ⟨rfl,rfl⟩;rw[←Hx.out]) | (go_at_call 111;(with_reducible refine (dc_ b m cap' k lb _ HbW.out (by omega)).mono ?_);rintro e w' ⟨rfl,rfl⟩;rw[←Hy.out]))
     go_roundw
     case rel=>
      obtain⟨h1,h2⟩:=Hset (x - (y+sn))
      rw[e3_,g3_ o m k _ Ho.out hlt] at h1
      have e:(((x - (y+sn):Nat)):Int)=(x:Int) - ((y:Int)+(sn:Int)):=by omega
      rw[e] at h1
      exact⟨k+1,0,o ++ [x - (y+sn)],by omega,by go_num,rfl,by omega,hd_ (by have:=Ho.out;simp;omega),gk_ hok (by omega),hd_ (io_ Ho.out Hv.out (by rw[←Hx.out,←Hy.out];omega)),hd_ h1,hB.setCell (Nat.le_refl _) _⟩
     case measure=>simp[intOf];omega
   ·have hkn:k=m:=by omega
    subst hkn
    have hown:=Hown.out
    rw[Nat.sub_self,List.replicate_zero,List.append_nil] at hown
    have HW:=hd_ (Wd.own hown hok)
    have Hfin:=hd_ (sub_end hle.out (by rw[Ha.out.len];omega) (by rw[Hb.out.len];omega) Ho.out hok Hv.out)
    clear hown
    go_wp2_with (go_at_call 56;(refine (du_ _ _ _ _ _ HW.out (by omega)).mono ?_);rintro e w' ⟨a',n',c',rfl,hwd,hbel⟩)
    go_ret
    exact⟨a',n',c',rfl,by rw[Hfin.out] at hwd;exact hwd,hB.trans (hbel.mono hB.size)⟩
 ·skip
  go_enter Tryz.func160,Tryz.ntmps160
  go_wp2_with (at_make;refine wpList_make_full _ rfl _ _ 25 rfl w.heap.size 81 i0 (.int .u32 0) 1 Tryz.underlying25 hi hz0 hz1 .i64 .i64 _ _ n rfl rfl (by omega) (by omega) (by rw[hz2];omega) (by unfold maxLen;omega) (Nat.le_refl _) ?_;intro w1 hown1 hgrow1)
  rw[f5_] at hown1
  have Hown1:=hd_ hown1
  have hB1:Below w.heap.size w w1:=(Below.refl _ _).grown hgrow1 (Nat.le_refl _) (fun k hk=>by cases hk)
  clear hown1 hgrow1
  go_loopw [7,8] (fun s i wr=>∃(k sn:Nat) (o:List Nat),k≤n∧i=.int .i64 k∧s=.int .u64 sn∧sn≤1∧Hid (o.length=k)∧okw o∧Hid (low la k+4294967296 ^ k * sn=low lb k+val o)∧
   Hid (wr.ownsRow w.heap.size 81 1 (.slice (some ⟨w.heap.size,0,none⟩) n n) n (cf_ (o ++ List.replicate (n - k) 0)))∧Below w.heap.size w wr) (fun _ i _=>n - (intOf i).toNat)
  case atStart=>exact⟨0,0,[],by omega,rfl,rfl,by omega,hd_ rfl,f3_,hd_ (by rw[cj_,cj_];rfl),Hown1,hB1⟩
  case round=>
   obtain⟨k,sn,o,hk,rfl,rfl,hsn,Ho,hok,Hv,Hown,hB⟩:=hrel
   by_cases hlt:k < n
   ·have HaW:=Ha.l_ hB
    have HbW:=Hb.l_ hB
    have hcell:wr.cell? ⟨w.heap.size,k,none⟩=some (.int .u32 ((atw (o ++ List.replicate (n - k) 0) k:Nat):Int)):=(Hown.out.cellAt k (by omega)).trans (f7_ (by have:=Ho.out;simp;omega))
    have hfro:wr.frozen? ⟨w.heap.size,k,none⟩=false:=Hown.out.frozenAt k
    generalize atw (o ++ List.replicate (n - k) 0) k=old at hcell
    have hxa:=bi_ Ha.out.ok k
    have hxb:=bi_ Hb.out.ok k
    have hk1:(k:Int) < (n:Int):=by omega
    obtain⟨x,hx⟩:∃x,x=atw la k:=⟨_,rfl⟩
    obtain⟨y,hy⟩:∃y,y=atw lb k:=⟨_,rfl⟩
    rw[←hx] at hxa
    rw[←hy] at hxb
    have Hx:=hd_ hx
    have Hy:=hd_ hy
    clear hx hy
    have Hset:=fun r=>Hown.out.stored k (.int .u32 ((r:Nat):Int))
    by_cases hxy:x < y+sn
    ·have hxyi:(x:Int) < (y:Int)+(sn:Int):=by omega
     go_wp2_with (first | (go_at_call 111;(with_reducible refine (dc_ a n cap k la _ HaW.out (by omega)).mono ?_);rintro e w' ⟨rfl,rfl⟩;rw[←Hx.out]) | (go_at_call 111;(with_reducible refine (dc_ b m cap' k lb _ HbW.out (by omega)).mono ?_);rintro e w' ⟨rfl,rfl⟩;rw[←Hy.out]))
     go_roundw
     case rel=>
      obtain⟨h1,h2⟩:=Hset (x+4294967296 - (y+sn))
      rw[e3_,g3_ o n k _ Ho.out hlt] at h1
      have e:(((x+4294967296 - (y+sn):Nat)):Int)=(x:Int)+4294967296 - ((y:Int)+(sn:Int)):=by omega
      rw[e] at h1
      exact⟨k+1,1,o ++ [x+4294967296 - (y+sn)],by omega,by go_num,rfl,by omega,hd_ (by have:=Ho.out;simp;omega),gk_ hok (by omega),hd_ (io_ Ho.out Hv.out (by rw[←Hx.out,←Hy.out];omega)),hd_ h1,hB.setCell (Nat.le_refl _) _⟩
     case measure=>simp[intOf];omega
    ·have hxyi:(y:Int)+(sn:Int)≤(x:Int):=by omega
     go_wp2_with (first | (go_at_call 111;(with_reducible refine (dc_ a n cap k la _ HaW.out (by omega)).mono ?_);rintro e w' ⟨rfl,rfl⟩;rw[←Hx.out]) | (go_at_call 111;(with_reducible refine (dc_ b m cap' k lb _ HbW.out (by omega)).mono ?_);rintro e w' ⟨rfl,rfl⟩;rw[←Hy.out]))
     go_roundw
     case rel=>
      obtain⟨h1,h2⟩:=Hset (x - (y+sn))
      rw[e3_,g3_ o n k _ Ho.out hlt] at h1
      have e:(((x - (y+sn):Nat)):Int)=(x:Int) - ((y:Int)+(sn:Int)):=by omega
      rw[e] at h1
      exact⟨k+1,0,o ++ [x - (y+sn)],by omega,by go_num,rfl,by omega,hd_ (by have:=Ho.out;simp;omega),gk_ hok (by omega),hd_ (io_ Ho.out Hv.out (by rw[←Hx.out,←Hy.out];omega)),hd_ h1,hB.setCell (Nat.le_refl _) _⟩
     case measure=>simp[intOf];omega
   ·have hkn:k=n:=by omega
    subst hkn
    have hown:=Hown.out
    rw[Nat.sub_self,List.replicate_zero,List.append_nil] at hown
    have HW:=hd_ (Wd.own hown hok)
    have Hfin:=hd_ (sub_end hle.out (by rw[Ha.out.len];omega) (by rw[Hb.out.len];omega) Ho.out hok Hv.out)
    clear hown
    go_wp2_with (go_at_call 56;(refine (du_ _ _ _ _ _ HW.out (by omega)).mono ?_);rintro e w' ⟨a',n',c',rfl,hwd,hbel⟩)
    go_ret
    exact⟨a',n',c',rfl,by rw[Hfin.out] at hwd;exact hwd,hB.trans (hbel.mono hB.size)⟩
theorem mm_(a:OA_)(n cap:Nat)(la:List Nat)(b:OA_)(m cap':Nat)(lb:List Nat)(w:World)(ha:Wd w a n cap la)(hb:Wd w b m cap' lb)(hn:n≤17592183947264)(hm:m≤17592183947264) :
 Calls Tryz.prog 102 #[.slice a n cap,.slice b m cap'] w fun e w'=>e=.returned (.int .i64 (cmpI (val la) (val lb)))∧w=w':=by
 have Ha:=hd_ ha
 have Hb:=hd_ hb
 clear ha hb
 by_cases hnm:n < m
 ·skip
  go_enter Tryz.func102,Tryz.ntmps102
  go_wp2
  go_loop [5] (fun i=>∃k:Nat,k≤m∧i=.int .i64 ((k:Int) - 1)∧Hid (top la k=top lb k)) (fun i=>(intOf i+1).toNat)
  case atStart=>exact⟨m,by omega,by go_num,hd_ (by rw[fl_ (by rw[Ha.out.len];omega),fl_ (by rw[Hb.out.len];omega)])⟩
  case round=>
   obtain⟨k,hk,rfl,Ht⟩:=hrel
   cases k with
   | zero=>
     have hv:val la=val lb:=by rw[←ek_,←ek_];exact Ht.out
     have Hfin:=hd_ (pd_ hv)
     clear hv
     go_wp2
     go_ret
     exact⟨d7_ Hfin.out.symm,rfl⟩
   | succ k=>
     have e1:((k+1:Nat):Int) - 1=(k:Int):=by omega
     rw[e1]
     clear e1
     have hxa:=bi_ Ha.out.ok k
     have hxb:=bi_ Hb.out.ok k
     obtain⟨x,hx⟩:∃x,x=atw la k:=⟨_,rfl⟩
     obtain⟨y,hy⟩:∃y,y=atw lb k:=⟨_,rfl⟩
     rw[←hx] at hxa
     rw[←hy] at hxb
     have Hx:=hd_ hx
     have Hy:=hd_ hy
     clear hx hy
     go_wp2_with (first | (go_at_call 111;(with_reducible refine (dc_ a n cap k la _ Ha.out (by omega)).mono ?_);rintro e w' ⟨rfl,rfl⟩;rw[←Hx.out]) | (go_at_call 111;(with_reducible refine (dc_ b m cap' k lb _ Hb.out (by omega)).mono ?_);rintro e w' ⟨rfl,rfl⟩;rw[←Hy.out]))
     ·go_ret
      have h:x < y:=by omega
      exact⟨d7_ (fv_ (nr_ Ha.out.ok Ht.out (by rw[←Hx.out,←Hy.out];exact h))).symm,rfl⟩
     ·go_ret
      have h:y < x:=by omega
      exact⟨d7_ (j7_ (nr_ Hb.out.ok Ht.out.symm (by rw[←Hx.out,←Hy.out];exact h))).symm,rfl⟩
     ·go_round
      case rel=>
       have h:x=y:=by omega
       exact⟨k,by omega,by go_num,hd_ (top_eq Ht.out (by rw[←Hx.out,←Hy.out];exact h))⟩
      case measure=>simp[intOf]
 ·skip
  go_enter Tryz.func102,Tryz.ntmps102
  go_wp2
  go_loop [5] (fun i=>∃k:Nat,k≤n∧i=.int .i64 ((k:Int) - 1)∧Hid (top la k=top lb k)) (fun i=>(intOf i+1).toNat)
  case atStart=>exact⟨n,by omega,by go_num,hd_ (by rw[fl_ (by rw[Ha.out.len];omega),fl_ (by rw[Hb.out.len];omega)])⟩
  case round=>
   obtain⟨k,hk,rfl,Ht⟩:=hrel
   cases k with
   | zero=>
     have hv:val la=val lb:=by rw[←ek_,←ek_];exact Ht.out
     have Hfin:=hd_ (pd_ hv)
     clear hv
     go_wp2
     go_ret
     exact⟨d7_ Hfin.out.symm,rfl⟩
   | succ k=>
     have e1:((k+1:Nat):Int) - 1=(k:Int):=by omega
     rw[e1]
     clear e1
     have hxa:=bi_ Ha.out.ok k
     have hxb:=bi_ Hb.out.ok k
     obtain⟨x,hx⟩:∃x,x=atw la k:=⟨_,rfl⟩
     obtain⟨y,hy⟩:∃y,y=atw lb k:=⟨_,rfl⟩
     rw[←hx] at hxa
     rw[←hy] at hxb
     have Hx:=hd_ hx
     have Hy:=hd_ hy
     clear hx hy
     go_wp2_with (first | (go_at_call 111;(with_reducible refine (dc_ a n cap k la _ Ha.out (by omega)).mono ?_);rintro e w' ⟨rfl,rfl⟩;rw[←Hx.out]) | (go_at_call 111;(with_reducible refine (dc_ b m cap' k lb _ Hb.out (by omega)).mono ?_);rintro e w' ⟨rfl,rfl⟩;rw[←Hy.out]))
     ·go_ret
      have h:x < y:=by omega
      exact⟨d7_ (fv_ (nr_ Ha.out.ok Ht.out (by rw[←Hx.out,←Hy.out];exact h))).symm,rfl⟩
     ·go_ret
      have h:y < x:=by omega
      exact⟨d7_ (j7_ (nr_ Hb.out.ok Ht.out.symm (by rw[←Hx.out,←Hy.out];exact h))).symm,rfl⟩
     ·go_round
      case rel=>
       have h:x=y:=by omega
       exact⟨k,by omega,by go_num,hd_ (top_eq Ht.out (by rw[←Hx.out,←Hy.out];exact h))⟩
      case measure=>simp[intOf]
theorem kn_(neg:Bool)(a:OA_)(n cap:Nat)(l:List Nat)(w:World)(h:Wd w a n cap l)(hn:n≤17592183947264) :
 Calls Tryz.prog 159 #[whV neg a n cap] w (LstZ (zval neg (val l)) w):=by
 have H:=hd_ h
 clear h
 unfold whV
 go_enter Tryz.func159,Tryz.ntmps159
 go_wp2_with fail
 refine (du_ _ _ _ _ _ (H.out.later (ab_ (aa_ _ _) (aa_ _ _))) (by omega)).mono ?_
 rintro e w1 ⟨a1,n1,c1,rfl,h1,b1⟩
 have hA:w1.heap[w.heap.size]? = some (.cells #[.bool neg,.slice a n cap] 143 (0,0)):=ac_ (ac_ (ai_ w _ _) (aa_ _ _)) b1
 have hR:w1.heap[w.heap.size+1]? = some (.cells #[.bool false,.slice none 0 0] 143 (0,0)):=by
  have h2:=ai_ (w.alloc (.cells #[.bool neg,.slice a n cap] 143)) #[.bool false,.slice none 0 0] 143
  rw[al_] at h2
  exact ac_ h2 b1
 have hA0:=ad_ hA 0
 have hR0:=ad_ hR 0
 have hR1:=ad_ hR 1
 have hF0:=ae_ hR 0
 have hF1:=ae_ hR 1
 have HR:=hd_ hR
 have H1:=hd_ h1
 have hB:=hd_ (ab_ (aa_ _ _) (ab_ (aa_ _ _) b1))
 clear hA hR h1 b1
 simp only[List.getElem?_toArray,List.getElem?_cons_zero,List.getElem?_cons_succ] at hA0 hR0 hR1
 have HS2:Hid (∀b:Bool,Wd ((w1.setCell ⟨w.heap.size+1,0,none⟩ (.bool b)).setCell ⟨w.heap.size+1,1,none⟩ (.slice a1 n1 c1)) a1 n1 c1 (dg (val l))):=hd_ (fun b=>H1.out.stored2 HR.out b _)
 have HG2:Hid (∀b:Bool,((w1.setCell ⟨w.heap.size+1,0,none⟩ (.bool b)).setCell ⟨w.heap.size+1,1,none⟩ (.slice a1 n1 c1)).heap[w.heap.size+1]? = some (.cells #[.bool b,.slice a1 n1 c1] 143 (0,0))):=hd_ (fun b=>bj_ HR.out _ _)
 have HB2:Hid (∀b:Bool,Below w.heap.size w ((w1.setCell ⟨w.heap.size+1,0,none⟩ (.bool b)).setCell ⟨w.heap.size+1,1,none⟩ (.slice a1 n1 c1))):=hd_ (fun b=>ay_ hB.out (by omega) _ _)
 have Hn1:Hid ((dg (val l)).length=n1):=hd_ H1.out.len
 have HA:Hid ((zval neg (val l)).natAbs=val l):=hd_ (d0_ _ _)
 cases neg with
 | false=>
   have HZ:Hid (zneg (zval false (val l))=false):=hd_ (by rw[h9_];rfl)
   go_wp2
   refine bodyPost_ret (results_cell_row Tryz.results159 _ _ (w.heap.size+1) 143 #[.bool false,.slice a1 n1 c1] (0,0) _ rfl (HG2.out false) Tryz.underlying143 rfl (by kernel_rfl)) rfl ?_
   exact⟨a1,n1,c1,by rw[HZ.out];rfl,by rw[HA.out];exact HS2.out false,HB2.out false⟩
 | true=>
   by_cases hz:n1=0
   ·have HZ:Hid (zneg (zval true (val l))=false):=hd_ (by rw[h9_,dg_nil_iff.1 (Hn1.out.trans hz)];rfl)
    subst hz
    go_wp2
    refine bodyPost_ret (results_cell_row Tryz.results159 _ _ (w.heap.size+1) 143 #[.bool false,.slice a1 0 c1] (0,0) _ rfl (HG2.out false) Tryz.underlying143 rfl (by kernel_rfl)) rfl ?_
    exact⟨a1,0,c1,by rw[HZ.out];rfl,by rw[HA.out];exact HS2.out false,HB2.out false⟩
   ·have hv:val l≠0:=fun h=>hz (Hn1.out.symm.trans (dg_nil_iff.2 h))
    have HZ:Hid (zneg (zval true (val l))=true):=hd_ (by rw[h9_,decide_eq_true hv];rfl)
    have hni:(0:Int) < (n1:Int):=by omega
    have hnn:0 < n1:=by omega
    clear hv hz
    go_wp2
    refine bodyPost_ret (results_cell_row Tryz.results159 _ _ (w.heap.size+1) 143 #[.bool true,.slice a1 n1 c1] (0,0) _ rfl (HG2.out true) Tryz.underlying143 rfl (by kernel_rfl)) rfl ?_
    exact⟨a1,n1,c1,by rw[HZ.out];rfl,by rw[HA.out];exact HS2.out true,HB2.out true⟩
theorem limb_add(x y c:Int)(w:World)(hx0:0≤x)(hx:x≤4294967295)(hy0:0≤y)(hy:y≤4294967295)(hc0:0≤c)(hc:c≤4294967295):Calls Tryz.prog 168 #[.int .u32 x,.int .u32 y,.int .u32 c] w fun e w'=>e=.returned (.tuple #[.int .u32 ((x+y+c) % 4294967296),.int .u32 ((x+y+c) / 4294967296)])∧w=w':=by
 go_enter Tryz.func168,Tryz.ntmps168
 go_wp2
 go_ret2
 exact⟨rfl,rfl⟩
theorem limb_sub(x y c:Int)(w:World)(hx0:0≤x)(hx:x≤4294967295)(hy0:0≤y)(hy:y≤4294967295)(hc0:0≤c)(hc:c≤4294967295):Calls Tryz.prog 169 #[.int .u32 x,.int .u32 y,.int .u32 c] w fun e w'=>e=.returned (.tuple #[.int .u32 ((x - y - c) % 4294967296),.int .u32 (-((x - y - c) / 4294967296))])∧w=w':=by
 go_enter Tryz.func169,Tryz.ntmps169
 go_wp2
 go_ret2
 exact⟨rfl,rfl⟩
theorem t1_(x y c d:Int)(w:World)(hx0:0≤x)(hx:x≤4294967295)(hy0:0≤y)(hy:y≤4294967295)(hc0:0≤c)(hc:c≤4294967295)(hd0:0≤d)(hd:d≤4294967295):Calls Tryz.prog 134 #[.int .u32 x,.int .u32 y,.int .u32 c,.int .u32 d] w fun e w'=>e=.returned (.tuple #[.int .u32 ((x * y+c+d) / 4294967296),.int .u32 ((x * y+c+d) % 4294967296)])∧w=w':=by
 obtain⟨hm0,hm⟩:=mul_words hx0 hx hy0 hy
 go_enter Tryz.func134,Tryz.ntmps134
 go_wp2
 go_ret2
 exact⟨rfl,rfl⟩
theorem rz_(hi lo y:Int)(w:World)(hge:y≤hi):Calls Tryz.prog 173 #[.int .u32 hi,.int .u32 lo,.int .u32 y] w fun e w'=>e=.returned (.tuple #[.int .u32 0,.int .u32 0,.bool false])∧w=w':=by
 go_enter Tryz.func173,Tryz.ntmps173
 go_wp2
 go_ret3
 exact⟨rfl,rfl⟩
theorem rf_(hi lo y:Int)(w:World)(hh0:0≤hi)(hh:hi≤4294967295)(hl0:0≤lo)(hl:lo≤4294967295)(hy:y≤4294967295)(hlt:hi < y):Calls Tryz.prog 173 #[.int .u32 hi,.int .u32 lo,.int .u32 y] w fun e w'=>e=.returned (.tuple #[.int .u32 ((hi * 4294967296+lo) / y),.int .u32 ((hi * 4294967296+lo) % y),.bool true])∧∃n,w'=w.drewN n:=by
 have hor:=lj_ hh0 hh hl0 hl
 obtain⟨hq0,hq⟩:=div_word hh0 hl0 hl hlt
 obtain⟨hr0,hr⟩:=mod_word (n:=hi * 4294967296+lo) (y:=y) (by omega)
 go_enter Tryz.func173,Tryz.ntmps173
 go_wp2
 go_quiet (fail)
 go_wp2
 go_ret3
 exact⟨rfl,_,rfl⟩
theorem p0_(i:Int)(h0:0≤i)(h1:i≤255){h:i.toNat < Lib.len8tab.size}:(((Lib.len8tab[i.toNat]'h).toNat:Nat):Int)=(Lib.bitLen i.toNat:Int):=by
 rw[←Lib.len8_of i h0 h1]
 unfold Lib.len8
 rw[getElem?_pos Lib.len8tab i.toNat h]
 rfl
theorem oj_(x:Int)(w:World)(h0:0≤x)(h1:x≤4294967295):Calls Tryz.prog 170 #[.int .u32 x] w fun e w'=>e=.returned (.int .i64 (Lib.bitLen x.toNat))∧w=w':=by
 go_enter Tryz.func170,Tryz.ntmps170
 by_cases c1:65536≤x
 ·by_cases c2:256≤x / 65536
  ·skip
   have hi:x / 65536 / 256 < (Lib.len8tab.size:Int):=by rw[Lib.len8tab_size];omega
   have hj:0≤x / 65536 / 256:=by omega
   go_wp2
   go_ret
   refine ⟨congrArg Ending.returned (congrArg (Value.int IntKind.i64) ?_),rfl⟩
   rw[p0_ (x / 65536 / 256) (by omega) (by omega)]
   have l:=Lib.bitLen_le8' (x / 65536 / 256) (by omega) (by omega)
   have e:(x / 65536 / 256).toNat=x.toNat / 16777216:=by omega
   have s:=Lib.bitLen_shift24 x.toNat (by omega) (by omega)
   rw[e] at l ⊢
   rw[s]
   clear s e
   generalize Lib.bitLen _=k at *
   unfold wrap64
   omega
  ·skip
   have hi:x / 65536 < (Lib.len8tab.size:Int):=by rw[Lib.len8tab_size];omega
   have hj:0≤x / 65536:=by omega
   go_wp2
   go_ret
   refine ⟨congrArg Ending.returned (congrArg (Value.int IntKind.i64) ?_),rfl⟩
   rw[p0_ (x / 65536) (by omega) (by omega)]
   have l:=Lib.bitLen_le8' (x / 65536) (by omega) (by omega)
   have e:(x / 65536).toNat=x.toNat / 65536:=by omega
   have s:=Lib.bitLen_shift16 x.toNat (by omega) (by omega)
   rw[e] at l ⊢
   rw[s]
   clear s e
   generalize Lib.bitLen _=k at *
   unfold wrap64
   omega
 ·by_cases c2:256≤x
  ·skip
   have hi:x / 256 < (Lib.len8tab.size:Int):=by rw[Lib.len8tab_size];omega
   have hj:0≤x / 256:=by omega
   go_wp2
   go_ret
   refine ⟨congrArg Ending.returned (congrArg (Value.int IntKind.i64) ?_),rfl⟩
   rw[p0_ (x / 256) (by omega) (by omega)]
   have l:=Lib.bitLen_le8' (x / 256) (by omega) (by omega)
   have e:(x / 256).toNat=x.toNat / 256:=by omega
   have s:=Lib.bitLen_shift8 x.toNat (by omega) (by omega)
   rw[e] at l ⊢
   rw[s]
   clear s e
   generalize Lib.bitLen _=k at *
   unfold wrap64
   omega
  ·skip
   have hi:x < (Lib.len8tab.size:Int):=by rw[Lib.len8tab_size];omega
   have hj:0≤x:=by omega
   go_wp2
   go_ret
   refine ⟨congrArg Ending.returned (congrArg (Value.int IntKind.i64) ?_),rfl⟩
   rw[p0_ (x) (by omega) (by omega)]
   have l:=Lib.bitLen_le8' (x) (by omega) (by omega)
   generalize Lib.bitLen _=k at *
   unfold wrap64
   omega
theorem limb_len(x:Int)(w:World)(h0:0≤x)(h1:x≤4294967295):Calls Tryz.prog 174 #[.int .u32 x] w fun e w'=>e=.returned (.int .i64 (Lib.bitLen x.toNat))∧w=w':=by
 go_enter Tryz.func174,Tryz.ntmps174
 go_wp2_with (go_at_call 170;refine (oj_ x _ h0 h1).mono ?_;rintro e w' ⟨rfl,rfl⟩)
 go_ret
 exact⟨rfl,rfl⟩
end Go.Proofs.YtocebjbjnfammaaGreat
