import Derived.Test.YtocebjbjnfammaaGreatVG1
import Derived.Laws.OwnMore
import Derived.Test.YtocebjbjnfammaaGreatRows
import Derived.IntWalk
import Derived.Deep.QuietTactic
import Derived.BigQuiet
import Derived.Deep.AppendSrc
import Derived.Deep.DeepMust
import Derived.WalkKit
import Derived.WalkSpells
import Derived.WalkLawsBesides
import Derived.Lib.BitFns
import Derived.Lib.Strings
import Derived.Lib.Slices
import Derived.Lib.Small
import Derived.Lib.Walk
import Derived.Laws.CopyOwn
import Derived.OwnWalk
import Derived.Lib.AppendIntMem
import Derived.Lib.LaidTab
import Derived.Lib.ItoaNum
import Derived.Laws.MakeOwn
import Derived.BigRegion
import Derived.ProofKit
import Derived.OpenShut
import Derived.Deep.Matrix
set_option maxRecDepth 4096
set_option maxHeartbeats 16000000
namespace Go.Proofs.YtocebjbjnfammaaGreat
open Go.RowKit
def Flat (P:List Nat) (t:Nat):Prop:=∀k,t≤k→atw P k=0
theorem jt_:∀{l:List Nat},(∀k,atw l k=0)→val l=0
 | [],_=>rfl
 | x :: l,h=>by
   have h0:x=0:=h 0
   have h1:=jt_ (l:=l) (fun k=>h (k+1))
   rw[val,h0,h1]
theorem pw_{P:List Nat}{t:Nat}(h:Flat P t):top P t=0:=jt_ (fun k=>by rw[ej_];exact h _ (by omega))
theorem flat_lt{P:List Nat}{t:Nat}(ho:okw P)(h:Flat P t):val P < 4294967296 ^ t:=by
 have h1:=i9_ ho t
 have h2:=cf_ P t
 rw[pw_ h,Nat.mul_zero] at h2
 omega
theorem kv_{P:List Nat}{t:Nat}(h:val P < 4294967296 ^ t):top P t=0:=by
 have h2:=cf_ P t
 rcases Nat.eq_zero_or_pos (top P t) with h3 | h3
 ·exact h3
 ·have h4:4294967296 ^ t * 1≤4294967296 ^ t * top P t:=Nat.mul_le_mul_left _ h3
  omega
theorem qv_{P:List Nat}{t:Nat}(h:val P < 4294967296 ^ t):Flat P t:=fun k hk=>by
 have h1:=kv_ (P:=P) (t:=k) (Nat.lt_of_lt_of_le h (Nat.pow_le_pow_right (by decide) hk))
 rw[cb_] at h1
 omega
theorem i4_{P:List Nat}{t k y:Nat}(h:Flat P t)(hk:k < t):Flat (P.set k y) t:=fun j hj=>by
 rw[e5_ (by omega)];exact h j hj
def im_ (P0 D P:List Nat) (i q j c b:Nat):Prop:=val P+4294967296 ^ i * (q * low D j)=val P0+4294967296 ^ (i+j) * (c+b)
theorem rz_(P0 D:List Nat)(i q:Nat):im_ P0 D P0 i q 0 0 0:=by unfold im_;rw[dk_];simp
theorem nx_{x y k lo b r b' u v:Nat}(h1:x+4294967296 ^ k * u=y+4294967296 ^ k * r)(hs:u+4294967296 * b'=lo+b+r)(hv:v=lo+b) :
 x+4294967296 ^ k * v=y+4294967296 ^ (k+1) * b':=by
 subst hv
 have h3:4294967296 ^ k * u+4294967296 ^ k * (4294967296 * b')=4294967296 ^ k * (lo+b)+4294967296 ^ k * r:=by rw[←Nat.mul_add,hs,Nat.mul_add]
 have h4:4294967296 ^ (k+1) * b'=4294967296 ^ k * (4294967296 * b'):=by rw[Nat.pow_succ,Nat.mul_assoc]
 rw[h4]
 generalize 4294967296 ^ k * u=a1 at *
 generalize 4294967296 ^ k * r=a2 at *
 generalize 4294967296 ^ k * (4294967296 * b')=a3 at *
 generalize 4294967296 ^ k * (lo+b)=a4 at *
 omega
theorem take_step{P0 D P:List Nat}{i q j c b lo hi r b':Nat}(h:im_ P0 D P i q j c b)(hP:i+j < P.length)(hm:lo+4294967296 * hi=atw D j * q+c)(hs:atw P (i+j)+4294967296 * b'=lo+b+r) :
 im_ P0 D (P.set (i+j) r) i q (j+1) hi b':=by
 unfold im_ at *
 have h1:=nx_ (fz_ P (i+j) r hP) hs rfl
 have h5:4294967296 ^ i * (q * low D (j+1))=4294967296 ^ i * (q * low D j)+4294967296 ^ (i+j) * (atw D j * q):=by
  rw[dp_,Nat.mul_add,Nat.mul_add,Nat.pow_add,Nat.mul_left_comm q,Nat.mul_comm q (atw D j),←Nat.mul_assoc (4294967296 ^ i) (4294967296 ^ j)]
 have h6:4294967296 ^ (i+j) * lo+4294967296 ^ (i+j) * (4294967296 * hi)=4294967296 ^ (i+j) * (atw D j * q)+4294967296 ^ (i+j) * c:=by rw[←Nat.mul_add,hm,Nat.mul_add]
 have h7:4294967296 ^ (i+(j+1)) * (hi+b')=4294967296 ^ (i+j) * (4294967296 * hi)+4294967296 ^ (i+j+1) * b':=by
  rw[←Nat.add_assoc,Nat.mul_add,Nat.pow_succ,Nat.mul_assoc]
 have h8:4294967296 ^ (i+j) * (lo+b)=4294967296 ^ (i+j) * lo+4294967296 ^ (i+j) * b:=Nat.mul_add ..
 have h9:4294967296 ^ (i+j) * (c+b)=4294967296 ^ (i+j) * c+4294967296 ^ (i+j) * b:=Nat.mul_add ..
 rw[h5,h7]
 rw[h8] at h1
 rw[h9] at h
 generalize val (P.set (i+j) r)=a1 at *
 generalize 4294967296 ^ (i+j) * lo=a2 at *
 generalize 4294967296 ^ (i+j) * (4294967296 * hi)=a3 at *
 generalize 4294967296 ^ (i+j) * (atw D j * q)=a4 at *
 generalize 4294967296 ^ (i+j) * b=a5 at *
 generalize 4294967296 ^ (i+j) * c=a6 at *
 generalize 4294967296 ^ (i+j+1) * b'=a7 at *
 generalize 4294967296 ^ i * (q * low D j)=a8 at *
 omega
theorem take_end{P0 D P:List Nat}{i q m c b r b':Nat}(h:im_ P0 D P i q m c b)(hD:D.length=m)(hP:i+m < P.length)(hs:atw P (i+m)+4294967296 * b'=c+b+r) :
 val (P.set (i+m) r)+4294967296 ^ i * (q * val D)=val P0+4294967296 ^ (i+m+1) * b':=by
 unfold im_ at h
 rw[fa_ (by omega)] at h
 have h1:=nx_ (fz_ P (i+m) r hP) hs rfl
 generalize val (P.set (i+m) r)=a1 at *
 generalize 4294967296 ^ (i+m) * (c+b)=a2 at *
 omega
def if_ (P0 D P:List Nat) (i j c:Nat):Prop:=val P+4294967296 ^ (i+j) * c=val P0+4294967296 ^ i * low D j
theorem qw_(P0 D:List Nat)(i:Nat):if_ P0 D P0 i 0 0:=by unfold if_;rw[dk_];simp
theorem n2_{x y k r z c u d:Nat}(h1:x+4294967296 ^ k * u=y+4294967296 ^ k * r)(hs:r+4294967296 * z=c+(u+d)) :
 x+4294967296 ^ (k+1) * z=y+(4294967296 ^ k * c+4294967296 ^ k * d):=by
 have h3:4294967296 ^ k * r+4294967296 ^ k * (4294967296 * z)=4294967296 ^ k * c+(4294967296 ^ k * u+4294967296 ^ k * d):=by rw[←Nat.mul_add,hs,Nat.mul_add,Nat.mul_add]
 have h4:4294967296 ^ (k+1) * z=4294967296 ^ k * (4294967296 * z):=by rw[Nat.pow_succ,Nat.mul_assoc]
 rw[h4]
 generalize 4294967296 ^ k * u=a1 at *
 generalize 4294967296 ^ k * r=a2 at *
 generalize 4294967296 ^ k * (4294967296 * z)=a3 at *
 generalize 4294967296 ^ k * c=a4 at *
 generalize 4294967296 ^ k * d=a5 at *
 omega
theorem give_step{P0 D P:List Nat}{i j c r z:Nat}(h:if_ P0 D P i j c)(hP:i+j < P.length)(hs:r+4294967296 * z=c+(atw P (i+j)+atw D j)):if_ P0 D (P.set (i+j) r) i (j+1) z:=by
 unfold if_ at *
 have h1:=n2_ (fz_ P (i+j) r hP) hs
 have h5:4294967296 ^ i * low D (j+1)=4294967296 ^ i * low D j+4294967296 ^ (i+j) * atw D j:=by rw[dp_,Nat.mul_add,Nat.pow_add,Nat.mul_assoc]
 rw[h5,←Nat.add_assoc i j 1]
 generalize val (P.set (i+j) r)=a1 at *
 generalize 4294967296 ^ (i+j+1) * z=a2 at *
 generalize 4294967296 ^ (i+j) * c=a3 at *
 generalize 4294967296 ^ (i+j) * atw D j=a4 at *
 generalize 4294967296 ^ i * low D j=a5 at *
 omega
theorem give_end{P0 D P:List Nat}{i m c r z:Nat}(h:if_ P0 D P i m c)(hD:D.length=m)(hP:i+m < P.length)(hs:r+4294967296 * z=c+(atw P (i+m)+0)) :
 val (P.set (i+m) r)+4294967296 ^ (i+m+1) * z=val P0+4294967296 ^ i * val D:=by
 unfold if_ at h
 rw[fa_ (by omega)] at h
 have h1:=n2_ (fz_ P (i+m) r hP) hs
 rw[Nat.mul_zero,Nat.add_zero] at h1
 generalize val (P.set (i+m) r)=a1 at *
 generalize 4294967296 ^ (i+m+1) * z=a2 at *
 generalize 4294967296 ^ (i+m) * c=a3 at *
 omega
def c4_ (u1 u0 v1 v0:Nat):Nat:=
 if v1≤u1 then 4294967295
 else if (u1 * 4294967296+u0) % v1 < (u1 * 4294967296+u0) / v1 * v0 / 4294967296 then (u1 * 4294967296+u0) / v1 - 1
 else (u1 * 4294967296+u0) / v1
theorem guess_num{u1 u0 v1 v0 p dl wl D W:Nat}(hv1:2147483648≤v1)(hv0:v0 < 4294967296)(hu0:u0 < 4294967296)(hvw:v1 < 4294967296)(hdl:dl < p)(hwl:wl < 4294967296 * p)(hD:D=v1 * (4294967296 * p)+(v0 * p+dl))(hW:W=(u1 * 4294967296+u0) * (4294967296 * p)+wl)(hlt:W < 4294967296 * D) :
 W < (c4_ u1 u0 v1 v0+1) * D∧c4_ u1 u0 v1 v0 * D≤W+D∧c4_ u1 u0 v1 v0 < 4294967296:=by
 obtain⟨X,hX⟩:∃X,X=4294967296 * p:=⟨_,rfl⟩
 rw[←hX] at hwl hD hW
 have a1:v0 * p+p≤X:=by
  have h:=Nat.mul_le_mul_right p (show v0+1≤4294967296 by omega)
  rw[Nat.add_mul,Nat.one_mul] at h
  omega
 have a2:2147483648 * X≤v1 * X:=Nat.mul_le_mul_right _ hv1
 unfold c4_
 split
 ·rename_i hle
  have a3:v1 * X≤u1 * X:=Nat.mul_le_mul_right _ hle
  have a4:(u1 * 4294967296+u0) * X=4294967296 * (u1 * X)+u0 * X:=by rw[Nat.add_mul,Nat.mul_comm u1,Nat.mul_assoc]
  generalize u0 * X=t0 at *
  generalize u1 * X=t1 at *
  generalize v1 * X=t2 at *
  generalize v0 * p=t3 at *
  refine ⟨by omega,by omega,by omega⟩
 ·rename_i hle
  obtain⟨U,hU⟩:∃U,U=u1 * 4294967296+u0:=⟨_,rfl⟩
  rw[←hU] at hW ⊢
  have hUv:U < v1 * 4294967296:=by omega
  have hq:U / v1 < 4294967296:=Nat.div_lt_of_lt_mul hUv
  have hr:U % v1 < v1:=Nat.mod_lt _ (by omega)
  have hdm:=Nat.div_add_mod U v1
  generalize U / v1=q at *
  generalize U % v1=r at *
  have e1:q * D=q * v1 * X+q * (v0 * p+dl):=by rw[hD,Nat.mul_add,Nat.mul_assoc]
  have e2:U * X=q * v1 * X+r * X:=by rw[←hdm,Nat.add_mul,Nat.mul_comm v1 q]
  have e3:q * X≤4294967295 * X:=Nat.mul_le_mul_right _ (by omega)
  have e4:r * X+X≤v1 * X:=by have:=Nat.mul_le_mul_right X (show r+1≤v1 by omega);rwa [Nat.add_mul,Nat.one_mul] at this
  have e5:q * (v0 * p+dl)≤q * X:=Nat.mul_le_mul_left _ (by omega)
  have e6:(q+1) * D=q * D+D:=by rw[Nat.add_mul,Nat.one_mul]
  split
  ·rename_i hgt
   have hq1:1≤q:=by
    rcases Nat.eq_zero_or_pos q with h0 | h0
    ·subst h0;simp at hgt
    ·exact h0
   have f1:(r+1) * 4294967296≤q * v0:=by
    have h1:r+1≤q * v0 / 4294967296:=hgt
    have h2:=Nat.div_mul_le_self (q * v0) 4294967296
    have h3:=Nat.mul_le_mul_right 4294967296 h1
    exact Nat.le_trans h3 h2
   have f2:(r+1) * X≤q * (v0 * p+dl):=by
    have h1:=Nat.mul_le_mul_right p f1
    have h2:q * v0 * p≤q * (v0 * p+dl):=by rw[Nat.mul_assoc];exact Nat.mul_le_mul_left _ (by omega)
    rw[hX,←Nat.mul_assoc]
    omega
   rw[Nat.add_mul,Nat.one_mul] at f2
   have f3:(q - 1+1) * D=q * D:=by rw[Nat.sub_add_cancel hq1]
   have f4:(q - 1) * D+D=q * D:=by rw[←f3,Nat.add_mul,Nat.one_mul]
   rw[f3]
   generalize (q - 1) * D=y0 at *
   generalize q * D=y1 at *
   generalize q * v1 * X=y2 at *
   generalize q * (v0 * p+dl)=y3 at *
   generalize U * X=y4 at *
   generalize r * X=y5 at *
   generalize q * X=y6 at *
   generalize v1 * X=y7 at *
   generalize v0 * p=y8 at *
   refine ⟨by omega,by omega,by omega⟩
  ·rename_i hgt
   have f1:q * v0 < (r+1) * 4294967296:=by
    have h1:q * v0 / 4294967296 < r+1:=by omega
    exact (Nat.div_lt_iff_lt_mul (by decide)).1 h1
   have f2:q * (v0 * p+dl)≤(r+2) * X:=by
    have h1:q * (v0 * p+dl)≤q * (v0 * p+p):=Nat.mul_le_mul_left _ (by omega)
    have h2:q * (v0 * p+p)=(q * v0+q) * p:=by rw[Nat.mul_add,Nat.add_mul,Nat.mul_assoc]
    have h3:(q * v0+q) * p≤((r+2) * 4294967296) * p:=Nat.mul_le_mul_right _ (by omega)
    rw[hX,←Nat.mul_assoc]
    omega
   rw[Nat.add_mul] at f2
   generalize (q+1) * D=y0 at *
   generalize q * D=y1 at *
   generalize q * v1 * X=y2 at *
   generalize q * (v0 * p+dl)=y3 at *
   generalize U * X=y4 at *
   generalize r * X=y5 at *
   generalize q * X=y6 at *
   generalize v1 * X=y7 at *
   generalize v0 * p=y8 at *
   refine ⟨by omega,by omega,by omega⟩
theorem rh_{P D:List Nat}{i m:Nat}(hP:okw P)(hD:okw D)(hm:D.length=m+2)(hF:Flat P (i+m+3))(hv:2147483648≤atw D (m+1))(hlt:val P < 4294967296 ^ (i+1) * val D) :
 top P i < (c4_ (atw P (i+m+2)) (atw P (i+m+1)) (atw D (m+1)) (atw D m)+1) * val D∧c4_ (atw P (i+m+2)) (atw P (i+m+1)) (atw D (m+1)) (atw D m) * val D≤top P i+val D∧c4_ (atw P (i+m+2)) (atw P (i+m+1)) (atw D (m+1)) (atw D m) < 4294967296:=by
 refine guess_num (p:=4294967296 ^ m) (dl:=low D m) (wl:=low (P.drop i) (m+1)) hv (bw_ hD m) (bw_ hP _) (bw_ hD _) (i9_ hD m) (by rw[←b4_];exact i9_ (i0_ hP i) _) ?_ ?_ ?_
 ·have h1:=cf_ D m
  rw[cb_,cb_,gq_ (l:=D) (i:=m+1+1) (by omega)] at h1
  rw[h1,←b4_,Nat.pow_succ]
  generalize 4294967296 ^ m=X
  rw[Nat.mul_add,Nat.mul_zero,Nat.add_zero,Nat.mul_comm X (atw D m),←Nat.mul_assoc X,Nat.mul_comm (X * 4294967296)]
  omega
 ·have h1:=cf_ (P.drop i) (m+1)
  have h2:top (P.drop i) (m+3)=0:=by
   have:top (P.drop i) (m+3)=top P (i+m+3):=by unfold top;rw[List.drop_drop,Nat.add_assoc]
   rw[this,pw_ hF]
  rw[cb_,cb_,h2,ej_,ej_] at h1
  show val (P.drop i)=_
  rw[h1,←b4_,←Nat.add_assoc,show i+(m+1+1)=i+m+2 by omega]
  generalize 4294967296 ^ (m+1)=X
  rw[Nat.mul_comm X]
  have e:atw P (i+m+1)+4294967296 * (atw P (i+m+2)+4294967296 * 0)=atw P (i+m+2) * 4294967296+atw P (i+m+1):=by omega
  rw[e]
  omega
 ·have h1:=cf_ P i
  rcases Nat.lt_or_ge (top P i) (4294967296 * val D) with h2 | h2
  ·exact h2
  ·have h3:=Nat.mul_le_mul_left (4294967296 ^ i) h2
   rw[←Nat.mul_assoc,Nat.mul_comm _ 4294967296,←b4_] at h3
   generalize 4294967296 ^ (i+1) * val D=y1 at *
   generalize 4294967296 ^ i * top P i=y2 at *
   omega
def r1_ (P D P':List Nat) (i q:Nat):Prop:=val P'+4294967296 ^ i * (q * val D)=val P∧val P' < 4294967296 ^ i * val D
theorem k2_{P:List Nat}(hP:okw P){i x:Nat}(h:top P i < x):val P < 4294967296 ^ i * x:=by
 have h1:=cf_ P i
 have h2:=i9_ hP i
 have h3:=Nat.mul_le_mul_left (4294967296 ^ i) (show top P i+1≤x from h)
 rw[Nat.mul_add,Nat.mul_one] at h3
 generalize 4294967296 ^ i * top P i=y1 at *
 generalize 4294967296 ^ i * x=y2 at *
 generalize 4294967296 ^ i=y3 at *
 omega
theorem taken_yes{P D P1:List Nat}{i m g:Nat}(hP:okw P)(hlow:top P i < (g+1) * val D)(h1:val P1+4294967296 ^ i * (g * val D)=val P+4294967296 ^ (i+m+1) * 0):r1_ P D P1 i g:=by
 rw[Nat.mul_zero,Nat.add_zero] at h1
 have h2:=k2_ hP hlow
 rw[Nat.add_mul,Nat.one_mul,Nat.mul_add] at h2
 unfold r1_
 generalize 4294967296 ^ i * (g * val D)=y1 at *
 generalize 4294967296 ^ i * val D=y2 at *
 exact⟨h1,by omega⟩
theorem rk_{P D P1 P2:List Nat}{i m g c:Nat}(hP:okw P)(hP1:val P1 < 4294967296 ^ (i+m+1))(hP2:val P2 < 4294967296 ^ (i+m+1))(hhigh:g * val D≤top P i+val D)(hc:c≤1)
 (h1:val P1+4294967296 ^ i * (g * val D)=val P+4294967296 ^ (i+m+1) * 1) (h2:val P2+4294967296 ^ (i+m+1) * c=val P1+4294967296 ^ i * val D):1≤g∧r1_ P D P2 i (g - 1):=by
 have h3:=cf_ P i
 have hgt:top P i < g * val D:=by
  rcases Nat.lt_or_ge (top P i) (g * val D) with h | h
  ·exact h
  ·have h4:=Nat.mul_le_mul_left (4294967296 ^ i) h
   omega
 have hg:1≤g:=by
  rcases Nat.eq_zero_or_pos g with h | h
  ·subst h;simp at hgt
  ·exact h
 have e1:(g - 1) * val D+val D=g * val D:=by
  have:(g - 1+1) * val D=g * val D:=by rw[Nat.sub_add_cancel hg]
  rwa [Nat.add_mul,Nat.one_mul] at this
 have e2:4294967296 ^ i * ((g - 1) * val D)+4294967296 ^ i * val D=4294967296 ^ i * (g * val D):=by rw[←Nat.mul_add,e1]
 have e3:4294967296 ^ i * ((g - 1) * val D)≤4294967296 ^ i * top P i:=Nat.mul_le_mul_left _ (by omega)
 have e4:=k2_ hP hgt
 have hc1:c=1:=by
  rcases Nat.eq_zero_or_pos c with h | h
  ·subst h
   generalize 4294967296 ^ (i+m+1)=E at *
   generalize 4294967296 ^ i * ((g - 1) * val D)=y1 at *
   generalize 4294967296 ^ i * (g * val D)=y2 at *
   generalize 4294967296 ^ i * val D=y3 at *
   generalize 4294967296 ^ i * top P i=y4 at *
   omega
  ·omega
 subst hc1
 refine ⟨hg,?_,?_⟩
 ·generalize 4294967296 ^ (i+m+1)=E at *
  generalize 4294967296 ^ i * ((g - 1) * val D)=y1 at *
  generalize 4294967296 ^ i * (g * val D)=y2 at *
  generalize 4294967296 ^ i * val D=y3 at *
  generalize 4294967296 ^ i * top P i=y4 at *
  omega
 ·generalize 4294967296 ^ (i+m+1)=E at *
  generalize 4294967296 ^ i * ((g - 1) * val D)=y1 at *
  generalize 4294967296 ^ i * (g * val D)=y2 at *
  generalize 4294967296 ^ i * val D=y3 at *
  generalize 4294967296 ^ i * top P i=y4 at *
  omega
def nz_ (A:Nat) (D Q P:List Nat) (k:Nat):Prop:=val P+val Q * val D=A∧val P < 4294967296 ^ k * val D∧∀j,j < k→atw Q j=0
theorem long_step{A:Nat}{D Q P P':List Nat}{i q:Nat}(h:nz_ A D Q P (i+1))(hQ:i < Q.length)(ht:r1_ P D P' i q):nz_ A D (Q.set i q) P' i:=by
 refine ⟨?_,ht.2,fun j hj=>by rw[e5_ (by omega)];exact h.2.2 j (by omega)⟩
 have h1:=fz_ Q i q hQ
 rw[h.2.2 i (by omega),Nat.mul_zero,Nat.add_zero] at h1
 have h2:=h.1
 have h3:=ht.1
 have e:4294967296 ^ i * q * val D=4294967296 ^ i * (q * val D):=Nat.mul_assoc ..
 rw[h1,Nat.add_mul,e]
 omega
theorem long_end{A:Nat}{D Q P:List Nat}(h:nz_ A D Q P 0):val Q=A / val D∧val P=A % val D:=by
 have h1:=h.1
 have h2:=h.2.1
 rw[Nat.pow_zero,Nat.one_mul] at h2
 have h3:A=val P+val D * val Q:=by rw[Nat.mul_comm];exact h1.symm
 rw[h3,Nat.add_mul_div_left _ _ (by omega),Nat.div_eq_of_lt h2,Nat.add_mul_mod_self_left,Nat.mod_eq_of_lt h2]
 omega
theorem norm_top{b m s:Nat}(hm:(dg b).length=m+1)(hs:s=32 - blen (atw (dg b) m)):s < 32∧(dg (b * 2 ^ s)).length=m+1∧2147483648≤atw (dg (b * 2 ^ s)) m:=by
 have hr:atw (dg b) m≠0:=by
  have:=ql_ (l:=dg b) (cs_ b)
  rw[a8_,hm] at this
  simpa using this
 have ht:top (dg b) (m+1)=0:=gq_ (by omega)
 have h1:=iw_ (cs_ b) ht hr
 rw[a8_] at h1
 have h2:blen (atw (dg b) m)≤32:=blen_le.2 (bw_ (cs_ b) m)
 have h3:=i5_ hr
 have hb:b≠0:=by
  intro e;subst e;rw[cn_] at hm;simp at hm
 have h4:=blen_mul (n:=s) hb
 have h5:blen (b * 2 ^ s)=32 * (m+1):=by omega
 have h6:(dg (b * 2 ^ s)).length=m+1:=by rw[jx_,h5];omega
 refine ⟨by omega,h6,?_⟩
 have hr2:atw (dg (b * 2 ^ s)) m≠0:=by
  have:=ql_ (l:=dg (b * 2 ^ s)) (cs_ _)
  rw[a8_,h6] at this
  simpa using this
 have h7:=iw_ (cs_ (b * 2 ^ s)) (gq_ (l:=dg (b * 2 ^ s)) (i:=m+1) (by omega)) hr2
 rw[a8_,h5] at h7
 have h8:=pd_ hr2
 rw[show blen (atw (dg (b * 2 ^ s)) m) - 1=31 by omega] at h8
 exact h8
theorem r0_{A n m:Nat}{D:List Nat}(hA:(dg A).length+1=n+(m+1))(hD:D.length=m+1)(hv:2147483648≤atw D m):nz_ A D (List.replicate n 0) (dg A ++ [0]) n:=by
 refine ⟨?_,?_,fun j _=>n5_ n j⟩
 ·rw[hc_,Nat.zero_mul,d4_,a8_];omega
 ·have h1:val (dg A ++ [0])=A:=by rw[d4_,a8_];omega
  rw[h1]
  have h2:=cd_ A
  rw[show (dg A).length=n+m by omega,Nat.pow_add] at h2
  have h3:=cf_ D m
  rw[cb_,gq_ (l:=D) (i:=m+1) (by omega)] at h3
  have h4:4294967296 ^ m * 1≤4294967296 ^ m * (atw D m+4294967296 * 0):=Nat.mul_le_mul_left _ (by omega)
  have h5:=Nat.mul_le_mul_left (4294967296 ^ n) (show 4294967296 ^ m≤val D by omega)
  omega
theorem kq_(a b s:Nat):a * 2 ^ s / (b * 2 ^ s)=a / b∧a * 2 ^ s % (b * 2 ^ s) / 2 ^ s=a % b:=by
 have hp:=Nat.two_pow_pos s
 exact⟨Nat.mul_div_mul_right _ _ hp,by rw[Nat.mul_mod_mul_right,Nat.mul_div_cancel _ hp]⟩
def m2_ (x:Nat) (L Q:List Nat) (k r:Nat):Prop:=top L k=top Q k * x+r∧r < x∧(∀j,j < k→atw Q j=atw L j)∧Q.length=L.length
theorem top_set{Q:List Nat}{i y:Nat}:top (Q.set i y) (i+1)=top Q (i+1):=by
 unfold top;rw[List.drop_set_of_lt (by omega)]
theorem word_down{x i r:Nat}{L Q:List Nat}(h:m2_ x L Q (i+1) r)(hx:0 < x)(hi:i < Q.length):m2_ x L (Q.set i ((r * 4294967296+atw L i) / x)) i ((r * 4294967296+atw L i) % x):=by
 obtain⟨h1,h2,h3,h4⟩:=h
 refine ⟨?_,Nat.mod_lt _ hx,fun j hj=>by rw[e5_ (by omega)];exact h3 j (by omega),by rw[List.length_set];exact h4⟩
 have e:atw (Q.set i ((r * 4294967296+atw L i) / x)) i=(r * 4294967296+atw L i) / x:=by
  unfold atw;rw[List.getD_eq_getElem?_getD,List.getElem?_set_self hi];rfl
 have hd:=Nat.div_add_mod (r * 4294967296+atw L i) x
 rw[cb_ L,cb_ (Q.set i _),e,top_set,h1,Nat.add_mul,Nat.mul_comm ((r * 4294967296+atw L i) / x) x,Nat.mul_assoc 4294967296]
 generalize x * ((r * 4294967296+atw L i) / x)=y1 at *
 generalize top Q (i+1) * x=y2 at *
 omega
theorem word_end{A x r:Nat}{L Q:List Nat}(h:m2_ x L Q 0 r)(hA:val L=A):val Q=A / x∧r=A % x:=by
 obtain⟨h1,h2,_,_⟩:=h
 rw[gg_,gg_,hA] at h1
 rw[h1,Nat.mul_comm,Nat.mul_add_div (by omega),Nat.mul_add_mod,Nat.div_eq_of_lt h2,Nat.mod_eq_of_lt h2]
 omega
def whV (neg:Bool) (a:OA_) (n cap:Nat):Value:=.agg #[.bool neg,.slice a n cap]
def zval (neg:Bool) (v:Nat):Int:=if neg=true then -(v:Int) else (v:Int)
def zneg (z:Int):Bool:=decide (z < 0)
theorem pn_(neg:Bool)(v:Nat):zneg (zval neg v)=(neg && decide (v≠0)):=by
 unfold zneg zval
 cases neg with
 | false=>simp
 | true=>
   by_cases h:v=0
   ·subst h;rfl
   ·rw[if_pos rfl,decide_eq_true h,decide_eq_true (by omega)];rfl
theorem d6_(neg:Bool)(v:Nat):(zval neg v).natAbs=v:=by unfold zval;cases neg <;> simp
theorem jv_(z:Int):zval (zneg z) z.natAbs=z:=by
 unfold zval zneg
 by_cases h:z < 0
 ·rw[decide_eq_true h,if_pos rfl];omega
 ·rw[decide_eq_false h,if_neg (by simp)];omega
def LstZ (z:Int) (w:World) (e:Ending) (w':World):Prop:=
 ∃(a:OA_) (n cap:Nat),e=.returned (whV (zneg z) a n cap)∧Wd w' a n cap (dg z.natAbs)∧Below w.heap.size w w'
theorem ad_{w:World}{g:Nat}{cur:Array Value}{t:TypeId}(h:w.heap[g]? = some (.cells cur t (0,0)))(j:Nat):w.cell? ⟨g,j,none⟩=cur[j]?:=cell_of_row w g j cur t (0,0) h
theorem af_{w:World}{g:Nat}{cur:Array Value}{t:TypeId}(h:w.heap[g]? = some (.cells cur t (0,0)))(j:Nat):w.frozen? ⟨g,j,none⟩=false:=frozen_of_row w g j cur t h
theorem aj_(w:World)(cur:Array Value)(t:TypeId):(w.alloc (.cells cur t)).heap[w.heap.size]? = some (.cells cur t (0,0)):=heap_alloc_new w _
theorem ae_{w w':World}{g:Nat}{o:Obj}(h:w.heap[g]? = some o)(hb:Below w.heap.size w w'):w'.heap[g]? = some o:=(hb.block g (Array.getElem?_eq_some_iff.1 h).1).trans h
theorem aq_(w:World)(o:Obj):(w.alloc o).heap.size=w.heap.size+1:=by simp
theorem Wd.stored{w:World}{a:Option Addr}{n cap:Nat}{l:List Nat}(h:Wd w a n cap l){g:Nat}{cur:Array Value}{t:TypeId}(hg:w.heap[g]? = some (.cells cur t (0,0)))(hc:∀(j:Nat) (k:Int),cur[j]?≠some (.int .u32 k))(i:Nat)(u:Value):Wd (w.setCell ⟨g,i,none⟩ u) a n cap l:=by
 refine ⟨h.1,h.2.1,h.2.2.1,h.2.2.2.1,h.2.2.2.2.1,h.2.2.2.2.2.imp id fun ⟨b,off,e,hcl⟩=>⟨b,off,e,fun j hj=>?_⟩⟩
 have h1:=hcl j hj
 have hne:b≠g:=fun e2=>by
  subst e2
  rw[ad_ hg] at h1
  exact hc _ _ h1
 rw[World.cell?_of_block (w:=w) (Below.heap_setCell _ _ _ _ (by exact hne))]
 exact h1
theorem e0_{w:World}{g:Nat}{cur:Array Value}{t:TypeId}(h:w.heap[g]? = some (.cells cur t (0,0)))(i:Nat)(u:Value):(w.setCell ⟨g,i,none⟩ u).heap[g]? = some (.cells (cur.setIfInBounds i u) t (0,0)):=heap_setCell_same w g i cur t u h
theorem bk_{w:World}{g:Nat}{x y:Value}{t:TypeId}(h:w.heap[g]? = some (.cells #[x,y] t (0,0)))(u v:Value):((w.setCell ⟨g,0,none⟩ u).setCell ⟨g,1,none⟩ v).heap[g]? = some (.cells #[u,v] t (0,0)):=by
 have h1:=e0_ (e0_ h 0 u) 1 v
 simpa using h1
theorem qf_{b:Bool}{a:Option Addr}{n cap:Nat}:∀(j:Nat) (k:Int),(#[Value.bool b,.slice a n cap]:Array Value)[j]?≠some (.int .u32 k):=by
 intro j k
 match j with
 | 0=>simp
 | 1=>simp
 | j+2=>simp
theorem Wd.stored2{w:World}{a:Option Addr}{n cap:Nat}{l:List Nat}(h:Wd w a n cap l){g:Nat}{b:Bool}{x:Option Addr}{y z:Nat}{t:TypeId}(hg:w.heap[g]? = some (.cells #[.bool b,.slice x y z] t (0,0)))(c:Bool)(v:Value):Wd ((w.setCell ⟨g,0,none⟩ (.bool c)).setCell ⟨g,1,none⟩ v) a n cap l:=by
 have h1:=h.stored hg qf_ 0 (.bool c)
 have h2:(w.setCell ⟨g,0,none⟩ (.bool c)).heap[g]? = some (.cells #[.bool c,.slice x y z] t (0,0)):=by simpa using e0_ hg 0 (.bool c)
 exact h1.stored h2 qf_ 1 v
theorem a0_{w w1:World}{g:Nat}(h:Below w.heap.size w w1)(hg:w.heap.size≤g)(u v:Value):Below w.heap.size w ((w1.setCell ⟨g,0,none⟩ u).setCell ⟨g,1,none⟩ v):=(h.setCell (p:=⟨g,0,none⟩) hg u).setCell (p:=⟨g,1,none⟩) hg v
def sgn (z:Int):Int:=if z=0 then 0 else if z < 0 then -1 else 1
theorem gz_(z:Int) : -1≤sgn z∧sgn z≤1:=by unfold sgn;split <;> (try split) <;> omega
theorem pm_(w w1:World)(x:Array Value)(t:TypeId)(hb:Below (w.alloc (.cells x t)).heap.size (w.alloc (.cells x t)) w1):w1.heap[w.heap.size]? = some (.cells x t (0,0)):=ae_ (aj_ w x t) hb
theorem dx_(w w1:World)(x y:Array Value)(t s:TypeId)(hb:Below ((w.alloc (.cells x t)).alloc (.cells y s)).heap.size ((w.alloc (.cells x t)).alloc (.cells y s)) w1) :
 w1.heap[w.heap.size]? = some (.cells x t (0,0))∧w1.heap[w.heap.size+1]? = some (.cells y s (0,0)):=by
 refine ⟨ae_ (ae_ (aj_ w x t) (aa_ _ _)) hb,?_⟩
 have h2:=aj_ (w.alloc (.cells x t)) y s
 rw[aq_] at h2
 exact ae_ h2 hb



theorem limb_add(x y c:Int)(w:World)(hx0:0≤x)(hx:x≤4294967295)(hy0:0≤y)(hy:y≤4294967295)(hc0:0≤c)(hc:c≤4294967295):Calls Tryz.prog 168 #[.int .u32 x,.int .u32 y,.int .u32 c] w fun e w'=>e=.returned (.tuple #[.int .u32 ((x+y+c) % 4294967296),.int .u32 ((x+y+c) / 4294967296)])∧w=w':=by
 go_enter Tryz.func168,Tryz.ntmps168
 go_wp2
 go_ret2
 exact⟨rfl,rfl⟩
theorem limb_sub(x y c:Int)(w:World)(hx0:0≤x)(hx:x≤4294967295)(hy0:0≤y)(hy:y≤4294967295)(hc0:0≤c)(hc:c≤4294967295):Calls Tryz.prog 169 #[.int .u32 x,.int .u32 y,.int .u32 c] w fun e w'=>e=.returned (.tuple #[.int .u32 ((x - y - c) % 4294967296),.int .u32 (-((x - y - c) / 4294967296))])∧w=w':=by
 go_enter Tryz.func169,Tryz.ntmps169
 go_wp2
 go_ret2
 exact⟨rfl,rfl⟩
theorem qd_(x y c d:Int)(w:World)(hx0:0≤x)(hx:x≤4294967295)(hy0:0≤y)(hy:y≤4294967295)(hc0:0≤c)(hc:c≤4294967295)(hd0:0≤d)(hd:d≤4294967295):Calls Tryz.prog 134 #[.int .u32 x,.int .u32 y,.int .u32 c,.int .u32 d] w fun e w'=>e=.returned (.tuple #[.int .u32 ((x * y+c+d) / 4294967296),.int .u32 ((x * y+c+d) % 4294967296)])∧w=w':=by
 obtain⟨hm0,hm⟩:=mul_words hx0 hx hy0 hy
 go_enter Tryz.func134,Tryz.ntmps134
 go_wp2
 go_ret2
 exact⟨rfl,rfl⟩
theorem of_(hi lo y:Int)(w:World)(hge:y≤hi):Calls Tryz.prog 173 #[.int .u32 hi,.int .u32 lo,.int .u32 y] w fun e w'=>e=.returned (.tuple #[.int .u32 0,.int .u32 0,.bool false])∧w=w':=by
 go_enter Tryz.func173,Tryz.ntmps173
 go_wp2
 go_ret3
 exact⟨rfl,rfl⟩
theorem n3_(hi lo y:Int)(w:World)(hh0:0≤hi)(hh:hi≤4294967295)(hl0:0≤lo)(hl:lo≤4294967295)(hy:y≤4294967295)(hlt:hi < y):Calls Tryz.prog 173 #[.int .u32 hi,.int .u32 lo,.int .u32 y] w fun e w'=>e=.returned (.tuple #[.int .u32 ((hi * 4294967296+lo) / y),.int .u32 ((hi * 4294967296+lo) % y),.bool true])∧∃n,w'=w.drewN n:=by
 have hor:=iz_ hh0 hh hl0 hl
 obtain⟨hq0,hq⟩:=div_word hh0 hl0 hl hlt
 obtain⟨hr0,hr⟩:=mod_word (n:=hi * 4294967296+lo) (y:=y) (by omega)
 go_enter Tryz.func173,Tryz.ntmps173
 go_wp2
 go_quiet (fail)
 go_wp2
 go_ret3
 exact⟨rfl,_,rfl⟩
theorem me_(i:Int)(h0:0≤i)(h1:i≤255){h:i.toNat < Lib.len8tab.size}:(((Lib.len8tab[i.toNat]'h).toNat:Nat):Int)=(Lib.bitLen i.toNat:Int):=by
 rw[←Lib.len8_of i h0 h1]
 unfold Lib.len8
 rw[getElem?_pos Lib.len8tab i.toNat h]
 rfl
theorem ll_(x:Int)(w:World)(h0:0≤x)(h1:x≤4294967295):Calls Tryz.prog 170 #[.int .u32 x] w fun e w'=>e=.returned (.int .i64 (Lib.bitLen x.toNat))∧w=w':=by
 go_enter Tryz.func170,Tryz.ntmps170
 by_cases c1:65536≤x
 ·by_cases c2:256≤x / 65536
  ·skip
   have hi:x / 65536 / 256 < (Lib.len8tab.size:Int):=by rw[Lib.len8tab_size];omega
   have hj:0≤x / 65536 / 256:=by omega
   go_wp2
   go_ret
   refine ⟨congrArg Ending.returned (congrArg (Value.int IntKind.i64) ?_),rfl⟩
   rw[me_ (x / 65536 / 256) (by omega) (by omega)]
   have l:=Lib.bitLen_le8' (x / 65536 / 256) (by omega) (by omega)
   have e:(x / 65536 / 256).toNat=x.toNat / 16777216:=by omega
   have s:=Lib.bitLen_shift24 x.toNat (by omega) (by omega)
   rw[e] at l ⊢
   rw[s]
   clear s e
   generalize Lib.bitLen _=k at *
   unfold wrap64
   omega
  ·skip
   have hi:x / 65536 < (Lib.len8tab.size:Int):=by rw[Lib.len8tab_size];omega
   have hj:0≤x / 65536:=by omega
   go_wp2
   go_ret
   refine ⟨congrArg Ending.returned (congrArg (Value.int IntKind.i64) ?_),rfl⟩
   rw[me_ (x / 65536) (by omega) (by omega)]
   have l:=Lib.bitLen_le8' (x / 65536) (by omega) (by omega)
   have e:(x / 65536).toNat=x.toNat / 65536:=by omega
   have s:=Lib.bitLen_shift16 x.toNat (by omega) (by omega)
   rw[e] at l ⊢
   rw[s]
   clear s e
   generalize Lib.bitLen _=k at *
   unfold wrap64
   omega
 ·by_cases c2:256≤x
  ·skip
   have hi:x / 256 < (Lib.len8tab.size:Int):=by rw[Lib.len8tab_size];omega
   have hj:0≤x / 256:=by omega
   go_wp2
   go_ret
   refine ⟨congrArg Ending.returned (congrArg (Value.int IntKind.i64) ?_),rfl⟩
   rw[me_ (x / 256) (by omega) (by omega)]
   have l:=Lib.bitLen_le8' (x / 256) (by omega) (by omega)
   have e:(x / 256).toNat=x.toNat / 256:=by omega
   have s:=Lib.bitLen_shift8 x.toNat (by omega) (by omega)
   rw[e] at l ⊢
   rw[s]
   clear s e
   generalize Lib.bitLen _=k at *
   unfold wrap64
   omega
  ·skip
   have hi:x < (Lib.len8tab.size:Int):=by rw[Lib.len8tab_size];omega
   have hj:0≤x:=by omega
   go_wp2
   go_ret
   refine ⟨congrArg Ending.returned (congrArg (Value.int IntKind.i64) ?_),rfl⟩
   rw[me_ (x) (by omega) (by omega)]
   have l:=Lib.bitLen_le8' (x) (by omega) (by omega)
   generalize Lib.bitLen _=k at *
   unfold wrap64
   omega
theorem limb_len(x:Int)(w:World)(h0:0≤x)(h1:x≤4294967295):Calls Tryz.prog 174 #[.int .u32 x] w fun e w'=>e=.returned (.int .i64 (Lib.bitLen x.toNat))∧w=w':=by
 go_enter Tryz.func174,Tryz.ntmps174
 go_wp2_with (go_at_call 170;refine (ll_ x _ h0 h1).mono ?_;rintro e w' ⟨rfl,rfl⟩)
 go_ret
 exact⟨rfl,rfl⟩
theorem f4_:(Tryz.prog.info? 81).map (fun i=>(i.zero,i.size,i.bytes))=some (some (.int .u32 0),1,4):=by kernel_rfl
theorem own_heap{w:World}{base g:Nat}{e:TypeId}{n:Nat}{xs:List Value}(h:w.ownsRow base e 1 (.slice (some ⟨g,0,none⟩) n n) n xs):w.heap[g]? = some (.cells xs.toArray e (0,0)):=by
 rcases h.2 with ⟨h',_⟩ | ⟨g',cap',cur,h',_,hg,_,_,hcs,htake⟩
 ·simp at h'
 ·simp only[Value.slice.injEq,Option.some.injEq,Addr.mk.injEq,and_true,true_and] at h'
  obtain⟨rfl,rfl⟩:=h'
  rw[List.take_of_length_le (by rw[Array.length_toList,hcs];omega)] at htake
  rw[hg,←htake]
theorem rj_{w:World}{base g:Nat}{e:TypeId}{n:Nat}{xs:List Value}(h:w.heap[g]? = some (.cells xs.toArray e (0,0)))(hb:base≤g)(hl:xs.length=n)(hm:n≤maxLen):w.ownsRow base e 1 (.slice (some ⟨g,0,none⟩) n n) n xs:=
 ⟨by omega,.inr ⟨g,n,xs.toArray,rfl,hb,h,Nat.le_refl _,hm,by simp[hl],by rw[List.take_of_length_le (by simp[hl])]⟩⟩
theorem qx_{L cs:List Value}(h:cs.length=L.length):splice L 0 cs=cs:=by
 unfold splice;rw[List.drop_of_length_le (by omega)];simp
theorem Wd.some_cells{w w':World}{a:Option Addr}{n cap:Nat}{l:List Nat}(h:Wd w a n cap l)(h':Wd w' a n cap l)(hn:0 < n):∃ad,a=some ad∧∀j u,(cl_ l)[j]? = some u→w'.cell? (ad.add j)=some u:=by
 obtain⟨b,off,rfl,_⟩:=h.at hn
 exact⟨_,rfl,h'.cells⟩
theorem Wd.trim{w:World}{a:Option Addr}{n cap:Nat}{l:List Nat}(h:Wd w a n cap l):Wd w a (dg (val l)).length cap (dg (val l)):=by
 have h1:=h.take (k:=(dg (val l)).length) (by rw[←h.len];exact cr_ h.ok)
 rwa [take_dg h.ok] at h1
theorem Wd.trim_le{w:World}{a:Option Addr}{n cap:Nat}{l:List Nat}(h:Wd w a n cap l):(dg (val l)).length≤n:=by rw[←h.len];exact cr_ h.ok
def qt_ (a:OA_) (cap n:Nat) (l:List Nat) (w:World) (e:Ending) (w':World):Prop:=
 ∃m:Nat,e=.returned (.slice a m cap)∧Hid (m=(dg (val l)).length)∧m≤n∧Hid (Wd w a m cap (dg (val l)))∧w=w'
theorem nu_{a:Option Addr}{n cap k:Nat}{l:List Nat}{w:World}(h:Wd w a n cap l)(hk:k=(dg (val l)).length):qt_ a cap n l w (.returned (.slice a k cap)) w:=
 ⟨k,rfl,hd_ hk,by rw[hk];exact h.trim_le,hd_ (by rw[hk];exact h.trim),rfl⟩
theorem dz_(a:OA_)(n cap:Nat)(l:List Nat)(w:World)(h:Wd w a n cap l) :
 Calls Tryz.prog 135 #[.slice a n cap] w (qt_ a cap n l w):=by
 obtain⟨hb1,hb2⟩:=h.bound
 have H:=hd_ h
 clear h
 go_enter Tryz.func135,Tryz.ntmps135
 go_wp2
 go_loop [3] (fun i=>∃k:Nat,k≤n∧i=.int .i64 k∧Hid (top l k=0)) (fun i=>(intOf i).toNat)
 case atStart=>exact⟨n,by omega,rfl,hd_ (gq_ (by have:=H.out.len;omega))⟩
 case round=>
  obtain⟨k,hk,rfl,Ht⟩:=hrel
  cases k with
  | zero=>
    have Hfin:=hd_ (nu_ (k:=0) H.out (dg_stop (Nat.zero_le _) H.out.ok Ht.out (.inl rfl)).symm)
    cases a with
    | none=>
      obtain⟨rfl,rfl,rfl⟩:=H.out.ofNone
      go_wp2
      go_ret
      exact Hfin.out
    | some ad=>
      go_wp2
      go_ret
      exact Hfin.out
  | succ k=>
    obtain⟨b,off,rfl,hc⟩:=H.out.at (by omega)
    have hck:=hc k (by omega)
    clear hc
    by_cases hz:atw l k=0
    ·have hzb:(((atw l k:Nat):Int) == 0)=true:=by simp[hz]
     have Hz:=hd_ hz
     clear hz
     go_wp2
     go_round
     case rel=>exact⟨k,by omega,by go_num,hd_ (by rw[cb_,Hz.out,Ht.out])⟩
     case measure=>simp[intOf]
    ·have hzb:(((atw l k:Nat):Int) == 0)=false:=by simp[hz]
     have Hfin:=hd_ (nu_ (k:=k+1) H.out (dg_stop (by rw[H.out.len];exact hk) H.out.ok Ht.out (.inr (by simpa using hz))).symm)
     clear hz
     go_wp2
     go_ret
     exact Hfin.out
theorem ie_(w:World):Calls Tryz.prog 161 #[.bool true] w fun e w'=>e=.returned (.int .i64 (-1))∧w=w':=by
 go_enter Tryz.func161,Tryz.ntmps161
 go_wp2
 go_ret
 exact⟨rfl,rfl⟩
theorem jc_(w:World):Calls Tryz.prog 161 #[.bool false] w fun e w'=>e=.returned (.int .i64 1)∧w=w':=by
 go_enter Tryz.func161,Tryz.ntmps161
 go_wp2
 go_ret
 exact⟨rfl,rfl⟩
theorem nat_zero(a:OA_)(n cap:Nat)(l:List Nat)(w:World)(h:Wd w a n cap l) :
 Calls Tryz.prog 93 #[.slice a n cap] w (bg_ (.bool (decide (val l=0))) w):=by
 obtain⟨hb1,hb2⟩:=h.bound
 have H:=hd_ h
 clear h
 go_enter Tryz.func93,Tryz.ntmps93
 go_wp2_with fail
 refine (dz_ _ _ _ _ _ H.out).mono ?_
 rintro e w' ⟨m,rfl,Hm,hmn,HT,rfl⟩
 by_cases h0:m=0
 ·have Hv:=hd_ (dg_nil_iff.1 (Hm.out.symm.trans h0))
  subst h0
  go_wp2
  go_ret
  exact⟨qj_ (decide_eq_true Hv.out).symm,Below.refl _ _⟩
 ·have Hv:=hd_ (fun h=>h0 (Hm.out.trans (dg_nil_iff.2 h)))
  have hmb:((m:Int) == 0)=false:=by simp[h0]
  clear h0
  go_wp2
  go_ret
  exact⟨qj_ (decide_eq_false Hv.out).symm,Below.refl _ _⟩
theorem nat_of(x:Nat)(w:World)(hx:x≤18446744073709551615):Calls Tryz.prog 97 #[.int .u64 (x:Int)] w (Lst (dg x) w):=by
 have Hv:Hid (val [x % 4294967296,x / 4294967296]=x):=hd_ (by simp only[val];omega)
 have Hlit:=hd_ (Wd.lit2 w 81 (x:=x % 4294967296) (y:=x / 4294967296) (by omega) (by omega))
 go_enter Tryz.func97,Tryz.ntmps97
 go_wp2_with fail
 refine (dz_ _ _ _ _ _ Hlit.out).mono ?_
 rintro e w' ⟨m,rfl,Hm,hmn,HT,rfl⟩
 rw[Hv.out] at HT
 go_wp2
 go_ret
 exact⟨_,_,_,rfl,HT.out,aa_ _ _⟩
def NormPost (l:List Nat) (w:World) (e:Ending) (w':World):Prop:=
 ∃g m:Nat,e=.returned (.slice (some ⟨g,0,none⟩) m m)∧Hid (m=(dg (val l)).length)∧Hid (w'.ownsRow w.heap.size 81 1 (.slice (some ⟨g,0,none⟩) m m) m (cl_ (dg (val l))))∧Below w.heap.size w w'
theorem it_(a:OA_)(n cap:Nat)(l:List Nat)(w:World)(h:Wd w a n cap l)(hn:n≤17592183947264) :
 Calls Tryz.prog 133 #[.slice a n cap] w (NormPost l w):=by
 obtain⟨i0,hi,hz0,hz1,hz2⟩:=info_parts f4_
 obtain⟨hb1,hb2⟩:=h.bound
 have H:=hd_ h
 clear h
 go_enter Tryz.func133,Tryz.ntmps133
 go_wp2_with fail
 refine (dz_ _ _ _ _ _ H.out).mono ?_
 rintro e w' ⟨m,rfl,Hm,hmn,HT,rfl⟩
 go_wp2_with (first
  | (at_make;refine wpList_make_full _ rfl _ _ 25 rfl w.heap.size 81 i0 (.int .u32 0) 1 Tryz.underlying25 hi hz0 hz1 .i64 .i64 _ _ m rfl rfl (by omega) (by omega) (by rw[hz2];omega) (by unfold maxLen;omega) (Nat.le_refl _) ?_;intro w1 hown1 hgrow1;rw[n8_] at hown1;have Hg:=hd_ (own_heap hown1);have hB1:Below w.heap.size w w1:=(Below.refl _ _).grown hgrow1 (Nat.le_refl _) (fun k hk=>by cases hk);clear hown1 hgrow1)
  | (refine wpList_copy_splice (o:=⟨some 11,_,_,_,_,_⟩) rfl (.tmp 9) (.tmp 10) 25 25 rfl 81 Tryz.underlying25 (by rw[hi];simp[hz1]) (some ⟨w.heap.size,0,none⟩) a m m m cap (by rfl) (by rfl) w.heap.size 0 (cl_ (List.replicate m 0)) 81 Hg.out (cl_ (dg (val l))) (by rw[cg_,←Hm.out];simp) (fun h=>⟨rfl,HT.out.some_cells (HT.out.later hB1) (by rw[cg_,←Hm.out] at h;exact h)⟩) (by rw[cg_,cg_,←Hm.out];simp) (d2_ _) w.heap.size w hB1 (Nat.le_refl _) ?_;intro w2 hg2 hb2))
 go_ret
 refine ⟨w.heap.size,m,rfl,Hm,?_,hb2⟩
 have hg:=hg2.out
 rw[qx_ (by rw[cg_,cg_,←Hm.out];simp)] at hg
 exact hd_ (rj_ hg (Nat.le_refl _) (by rw[cg_];exact Hm.out.symm) (by unfold maxLen;omega))
theorem or_low{hi lo:Int}(h0:0≤hi)(h:hi≤4294967295)(hl0:0≤lo)(hl:lo≤4294967295):bits .or .u64 lo (hi * 4294967296)=lo+hi * 4294967296:=by
 have e:=iz_ h0 h hl0 hl
 have c:bits .or .u64 lo (hi * 4294967296)=bits .or .u64 (hi * 4294967296) lo:=by
  show IntKind.u64.wrap ((BitVec.ofInt 64 lo ||| BitVec.ofInt 64 (hi * 4294967296)).toNat:Int)=IntKind.u64.wrap ((BitVec.ofInt 64 (hi * 4294967296) ||| BitVec.ofInt 64 lo).toNat:Int)
  rw[BitVec.or_comm]
 rw[c,e,Int.add_comm]
theorem or_none{x:Int}(h0:0≤x)(h:x≤4294967295):bits .or .u64 0 x=x:=by
 have e:=iz_ (hi:=0) (lo:=x) (by omega) (by omega) h0 h
 simpa using e
theorem nat_cmp(a:OA_)(n cap:Nat)(la:List Nat)(b:OA_)(m cap':Nat)(lb:List Nat)(w:World)(ha:Wd w a n cap la)(hb:Wd w b m cap' lb) :
 Calls Tryz.prog 150 #[.slice a n cap,.slice b m cap'] w (bg_ (.int .i64 (cmpI (val la) (val lb))) w):=by
 obtain⟨hb1,hb2⟩:=ha.bound
 obtain⟨hb3,hb4⟩:=hb.bound
 have Ha:=hd_ ha
 have Hb:=hd_ hb
 clear ha hb
 go_enter Tryz.func150,Tryz.ntmps150
 go_wp2_with fail
 refine (dz_ _ _ _ _ _ Ha.out).mono ?_
 rintro e w' ⟨p,rfl,Hp,hp,HA,rfl⟩
 go_wp2_with fail
 refine (dz_ _ _ _ _ _ Hb.out).mono ?_
 rintro e w' ⟨q,rfl,Hq,hq,HB,rfl⟩
 by_cases hpq:p=q
 ·have Hpq:=hd_ hpq
  subst hpq
  go_wp2
  go_loopw [5] (fun i wr=>∃k r:Nat,k≤p∧i=.int .i64 ((k:Int) - 1)∧wr=w.drewN r∧Hid (top (dg (val la)) k=top (dg (val lb)) k)) (fun i _=>(intOf i+1).toNat)
  case atStart=>exact⟨p,0,by omega,by go_num,rfl,hd_ (by rw[gq_ (by rw[←Hp.out];omega),gq_ (by rw[←Hq.out];omega)])⟩
  case round=>
   obtain⟨k,r,hk,rfl,rfl,Ht⟩:=hrel
   cases k with
   | zero=>
     have hv:val la=val lb:=by have:=Ht.out;rw[gg_,gg_,a8_,a8_] at this;exact this
     have Hfin:=hd_ (cmpI_eq hv)
     clear hv
     go_wp2
     go_ret
     exact⟨fl_ Hfin.out.symm,d9_ _ _⟩
   | succ k=>
     have e1:((k+1:Nat):Int) - 1=(k:Int):=by omega
     rw[e1]
     clear e1
     obtain⟨ba,oa,rfl,hca⟩:=HA.out.at (by omega)
     obtain⟨bb,ob,rfl,hcb⟩:=HB.out.at (by omega)
     have hcak:=hca k (by omega)
     have hcbk:=hcb k (by omega)
     clear hca hcb
     have hxa:=bw_ (cs_ (val la)) k
     have hxb:=bw_ (cs_ (val lb)) k
     obtain⟨x,hx⟩:∃x,x=atw (dg (val la)) k:=⟨_,rfl⟩
     obtain⟨y,hy⟩:∃y,y=atw (dg (val lb)) k:=⟨_,rfl⟩
     rw[←hx] at hxa hcak
     rw[←hy] at hxb hcbk
     have Hx:=hd_ hx
     have Hy:=hd_ hy
     clear hx hy
     rcases Nat.lt_trichotomy x y with hxy | hxy | hxy
     ·have h1:((x:Int) != (y:Int))=true:=by simp;omega
      have h2:decide (x < y)=true:=by simp;omega
      have Hfin:=hd_ (h4_ (cmp_lt (cs_ _) Ht.out (by rw[←Hx.out,←Hy.out];exact hxy)))
      rw[a8_,a8_] at Hfin
      clear hxy
      go_wp2
      go_quiet (fail)
      go_wp2
      go_quiet ((go_at_call 161;exact gj_ (ie_ _) ⟨_,rfl⟩))
      go_wp2
      go_ret
      exact⟨fl_ Hfin.out.symm,by simp only[World.drewN_drewN];exact d9_ _ _⟩
     ·have h1:((x:Int) != (y:Int))=false:=by simp;omega
      have Hxy:=hd_ hxy
      clear hxy
      go_wp2
      go_quiet (fail)
      go_wp2
      go_roundw
      case rel=>exact⟨k,_,by omega,by go_num,rfl,hd_ (top_eq Ht.out (by rw[←Hx.out,←Hy.out];exact Hxy.out))⟩
      case measure=>simp[intOf]
     ·have h1:((x:Int) != (y:Int))=true:=by simp;omega
      have h2:decide (x < y)=false:=by simp;omega
      have Hfin:=hd_ (cmpI_gt (cmp_lt (cs_ _) Ht.out.symm (by rw[←Hx.out,←Hy.out];exact hxy)))
      rw[a8_,a8_] at Hfin
      clear hxy
      go_wp2
      go_quiet (fail)
      go_wp2
      go_quiet ((go_at_call 161;exact gj_ (jc_ _) ⟨_,rfl⟩))
      go_wp2
      go_ret
      exact⟨fl_ Hfin.out.symm,by simp only[World.drewN_drewN];exact d9_ _ _⟩
 ·have h1:((p:Int) != (q:Int))=true:=by simp;omega
  by_cases hlt:p < q
  ·have h2:decide (p < q)=true:=by simp;omega
   have Hfin:=hd_ (h4_ (f3_ (a:=val la) (b:=val lb) (by rw[←Hp.out,←Hq.out];exact hlt)))
   clear hpq hlt
   go_wp2_with fail
   refine (ie_ _).mono ?_
   rintro e w' ⟨rfl,rfl⟩
   go_wp2
   go_ret
   exact⟨fl_ Hfin.out.symm,Below.refl _ _⟩
  ·have h2:decide (p < q)=false:=by simp;omega
   have Hfin:=hd_ (cmpI_gt (f3_ (a:=val lb) (b:=val la) (by rw[←Hp.out,←Hq.out];omega)))
   clear hpq hlt
   go_wp2_with fail
   refine (jc_ _).mono ?_
   rintro e w' ⟨rfl,rfl⟩
   go_wp2
   go_ret
   exact⟨fl_ Hfin.out.symm,Below.refl _ _⟩
theorem nat_small(a:OA_)(n cap:Nat)(l:List Nat)(w:World)(h:Wd w a n cap l) :
 Calls Tryz.prog 154 #[.slice a n cap] w (bg_ (.tuple #[.int .u64 ((in_ (val l):Nat):Int),.bool (k8_ (val l))]) w):=by
 obtain⟨hb1,hb2⟩:=h.bound
 have H:=hd_ h
 clear h
 go_enter Tryz.func154,Tryz.ntmps154
 go_wp2_with fail
 refine (dz_ _ _ _ _ _ H.out).mono ?_
 rintro e w' ⟨m,rfl,Hm,hmn,HT,rfl⟩
 have Hk:Hid (m≤2↔val l < two64):=hd_ (by rw[Hm.out];exact dg_length_pow (k:=2))
 by_cases hm2:m≤2
 ·have Hv:Hid (val l < two64):=hd_ (Hk.out.1 hm2)
  have Hl:Hid (val l=atw (dg (val l)) 0+4294967296 * atw (dg (val l)) 1):=hd_ (by have:=val_two (l:=dg (val l)) (by rw[←Hm.out];exact hm2);rwa [a8_] at this)
  have hx0:=bw_ (cs_ (val l)) 0
  have hx1:=bw_ (cs_ (val l)) 1
  have h1n:Hid (m≤1→atw (dg (val l)) 1=0):=hd_ fun h=>la_ (by rw[←Hm.out];exact h)
  have h0n:Hid (m≤0→atw (dg (val l)) 0=0):=hd_ fun h=>la_ (by rw[←Hm.out];exact h)
  obtain⟨x,hx⟩:∃x,x=atw (dg (val l)) 0:=⟨_,rfl⟩
  obtain⟨y,hy⟩:∃y,y=atw (dg (val l)) 1:=⟨_,rfl⟩
  have hc0:0 < m→∃b off,a=some ⟨b,off,none⟩∧w.cell? ⟨b,off,none⟩=some (.int .u32 (x:Int)):=fun h=>by
   obtain⟨b,off,e,hc⟩:=HT.out.at h
   exact⟨b,off,e,by rw[hx];exact hc 0 h⟩
  have hc1:1 < m→∃b off,a=some ⟨b,off,none⟩∧w.cell? ⟨b,off+1,none⟩=some (.int .u32 (y:Int)):=fun h=>by
   obtain⟨b,off,e,hc⟩:=HT.out.at (by omega)
   exact⟨b,off,e,by rw[hy];exact hc 1 h⟩
  have Hc0:=hd_ hc0
  have Hc1:=hd_ hc1
  rw[←hx] at Hl hx0 h0n
  rw[←hy] at Hl hx1 h1n
  clear hx hy hc0 hc1
  have Hfin:Hid (in_ (val l)=x+4294967296 * y∧k8_ (val l)=true):=hd_ ⟨by unfold in_;rw[if_pos Hv.out];exact Hl.out,decide_eq_true Hv.out⟩
  have Ho1:Hid (bits .or .u64 0 (x:Int)=(x:Int)):=hd_ (or_none (by omega) (by omega))
  have Ho2:Hid (bits .or .u64 (x:Int) ((y:Int) * 4294967296)=(x:Int)+(y:Int) * 4294967296):=hd_ (or_low (by omega) (by omega) (by omega) (by omega))
  go_wp2
  go_loop [4,14] (fun nn ix=>(ix=.int .i64 0∧nn=.int .u64 0)∨(ix=.int .i64 1∧1≤m∧nn=.int .u64 (x:Int))∨(ix=.int .i64 2∧2≤m∧nn=.int .u64 ((x:Int)+(y:Int) * 4294967296))) (fun _ ix=>2 - (intOf ix).toNat)
  case atStart=>exact .inl ⟨rfl,rfl⟩
  case round=>
   rcases hrel with ⟨rfl,rfl⟩ | ⟨rfl,hr,rfl⟩ | ⟨rfl,hr,rfl⟩
   ·by_cases h0:0 < m
    ·obtain⟨b,off,rfl,hck⟩:=Hc0.out h0
     have ho1:=Ho1.out
     go_wp2
     go_round
     case rel=>exact .inr (.inl ⟨rfl,h0,rfl⟩)
     case measure=>simp[intOf]
    ·have hm0:m=0:=by omega
     have hfin:=Hfin.out
     rw[h0n.out (by omega),h1n.out (by omega)] at hfin
     have Hfin2:=hd_ hfin
     clear hfin Hfin
     subst hm0
     go_wp2
     go_ret2
     rw[Hfin2.out.1,Hfin2.out.2]
     exact⟨rfl,Below.refl _ _⟩
   ·by_cases h0:1 < m
    ·obtain⟨b,off,rfl,hck⟩:=Hc1.out h0
     have ho2:=Ho2.out
     go_wp2
     go_round
     case rel=>exact .inr (.inr ⟨rfl,h0,rfl⟩)
     case measure=>simp[intOf]
    ·have hm0:m=1:=by omega
     have hfin:=Hfin.out
     rw[h1n.out (by omega)] at hfin
     have Hfin2:=hd_ hfin
     clear hfin Hfin
     subst hm0
     go_wp2
     go_ret2
     rw[Hfin2.out.1,Hfin2.out.2]
     exact⟨rfl,Below.refl _ _⟩
   ·have hm0:m=2:=by omega
    subst hm0
    go_wp2
    go_ret2
    rw[Hfin.out.1,Hfin.out.2]
    exact⟨by simp;omega,Below.refl _ _⟩
 ·have Hfin:Hid (in_ (val l)=0∧k8_ (val l)=false):=hd_ ⟨by unfold in_;rw[if_neg (fun h=>hm2 (Hk.out.2 h))],decide_eq_false (fun h=>hm2 (Hk.out.2 h))⟩
  have hm3:(2:Int) < (m:Int):=by omega
  clear hm2
  go_wp2
  go_ret2
  rw[Hfin.out.1,Hfin.out.2]
  exact⟨rfl,Below.refl _ _⟩
def Own (w:World) (base g n cap:Nat) (l:List Nat):Prop:=w.ownsRow base 81 1 (.slice (some ⟨g,0,none⟩) n cap) n (cl_ l)∧okw l
theorem Own.wd{w:World}{base g n cap:Nat}{l:List Nat}(h:Own w base g n cap l):Wd w (some ⟨g,0,none⟩) n cap l:=Wd.own h.1 h.2
theorem Own.len{w:World}{base g n cap:Nat}{l:List Nat}(h:Own w base g n cap l):l.length=n:=h.wd.len
theorem Own.base{w:World}{base g n cap:Nat}{l:List Nat}(h:Own w base g n cap l):base≤g∧g < w.heap.size:=h.1.lt g rfl
theorem Own.cell{w:World}{base g n cap:Nat}{l:List Nat}(h:Own w base g n cap l){k:Nat}(hk:k < n):w.cell? ⟨g,k,none⟩=some (.int .u32 ((atw l k:Nat):Int)):=
 (h.1.cellAt k (by omega)).trans (ji_ (by rw[h.len];exact hk))
theorem Own.set{w:World}{base g n cap:Nat}{l:List Nat}(h:Own w base g n cap l)(k r:Nat)(hr:r < 4294967296):Own (w.setCell ⟨g,k,none⟩ (.int .u32 ((r:Nat):Int))) base g n cap (l.set k r):=by
 refine ⟨?_,fun x hx=>?_⟩
 ·rw[←q7_];exact (h.1.stored k _).1
 ·rcases List.mem_or_eq_of_mem_set hx with h1 | h1
  ·exact h.2 x h1
  ·omega
theorem Own.push{w':World}{base:Nat}{v':Value}{n:Nat}{l:List Nat}{r:Nat}(h:w'.ownsRow base 81 1 v' (n+1) (cl_ l ++ [.int .u32 ((r:Nat):Int)]))(ho:okw l)(hr:r < 4294967296):∃g cap,v'=.slice (some ⟨g,0,none⟩) (n+1) cap∧Own w' base g (n+1) cap (l ++ [r]):=by
 have e:cl_ l ++ [Value.int .u32 ((r:Nat):Int)]=cl_ (l ++ [r]):=by simp[cl_]
 rw[e] at h
 rcases h.2 with ⟨_,h0⟩ | ⟨g,cap,cur,rfl,h3⟩
 ·omega
 ·exact⟨g,cap,rfl,h,qh_ ho hr⟩
theorem f9_(x y c:Nat)(w:World)(hx:x < 4294967296)(hy:y < 4294967296)(hc:c≤1):Calls Tryz.prog 168 #[.int .u32 (x:Int),.int .u32 (y:Int),.int .u32 (c:Int)] w fun e w'=>
 ∃r z:Nat,e=.returned (.tuple #[.int .u32 (r:Int),.int .u32 (z:Int)])∧z≤1∧r < 4294967296∧Hid (r+4294967296 * z=c+(x+y))∧w=w':=
 (limb_add x y c w (by omega) (by omega) (by omega) (by omega) (by omega) (by omega)).mono fun e w' ⟨he,hw⟩=>⟨(x+y+c) % 4294967296,(x+y+c) / 4294967296,by rw[he];rfl,by omega,by omega,hd_ (by omega),hw⟩
theorem g6_(x c:Nat)(w:World)(hx:x < 4294967296)(hc:c≤1):Calls Tryz.prog 168 #[.int .u32 (x:Int),.int .u32 0,.int .u32 (c:Int)] w fun e w'=>
 ∃r z:Nat,e=.returned (.tuple #[.int .u32 (r:Int),.int .u32 (z:Int)])∧z≤1∧r < 4294967296∧Hid (r+4294967296 * z=c+(x+0))∧w=w':=
 f9_ x 0 c w hx (by omega) hc
theorem ex_(x y c:Nat)(w:World)(hx:x < 4294967296)(hy:y < 4294967296)(hc:c≤1):Calls Tryz.prog 169 #[.int .u32 (x:Int),.int .u32 (y:Int),.int .u32 (c:Int)] w fun e w'=>
 ∃r z:Nat,e=.returned (.tuple #[.int .u32 (r:Int),.int .u32 (z:Int)])∧z≤1∧r < 4294967296∧Hid (x+4294967296 * z=y+c+r)∧w=w':=
 (limb_sub x y c w (by omega) (by omega) (by omega) (by omega) (by omega) (by omega)).mono fun e w' ⟨he,hw⟩=>by
   by_cases h:x < y+c
   ·refine ⟨x+4294967296 - (y+c),1,?_,by omega,by omega,hd_ (by omega),hw⟩
    have e1:((x:Int) - y - c) % 4294967296=((x+4294967296 - (y+c):Nat):Int):=by omega
    have e2 : -(((x:Int) - y - c) / 4294967296)=((1:Nat):Int):=by omega
    rw[he,e1,e2]
   ·refine ⟨x - (y+c),0,?_,by omega,by omega,hd_ (by omega),hw⟩
    have e1:((x:Int) - y - c) % 4294967296=((x - (y+c):Nat):Int):=by omega
    have e2 : -(((x:Int) - y - c) / 4294967296)=((0:Nat):Int):=by omega
    rw[he,e1,e2]
theorem mr_(x c:Nat)(w:World)(hx:x < 4294967296)(hc:c≤1):Calls Tryz.prog 169 #[.int .u32 (x:Int),.int .u32 0,.int .u32 (c:Int)] w fun e w'=>
 ∃r z:Nat,e=.returned (.tuple #[.int .u32 (r:Int),.int .u32 (z:Int)])∧z≤1∧r < 4294967296∧Hid (x+4294967296 * z=0+c+r)∧w=w':=
 ex_ x 0 c w hx (by omega) hc
def o1_ (ls:List (List Nat)) (w:World) (e:Ending) (w':World):Prop:=∃N:Nat,e=.returned (.int .i64 (N:Int))∧N≤dt_ ls∧w=w'
theorem pe_(a:OA_)(n cap:Nat)(ls:List (List Nat))(w:World)(h:Wds w a n cap ls)(hw:dt_ ls≤1048576000000) :
 Calls Tryz.prog 155 #[.slice a n cap] w (o1_ ls w):=by
 obtain⟨hb1,hb2⟩:=h.bound
 have H:=hd_ h
 clear h
 go_enter Tryz.func155,Tryz.ntmps155
 go_wp2
 go_loop [3,8] (fun u i=>∃k N:Nat,k≤n∧i=.int .i64 k∧u=.int .i64 N∧N≤dt_ ls) (fun _ i=>n - (intOf i).toNat)
 case atStart=>exact⟨0,0,by omega,rfl,rfl,by omega⟩
 case round=>
  obtain⟨k,N,hk,rfl,rfl,hN⟩:=hrel
  by_cases hlt:k < n
  ·obtain⟨b,off,rfl,a',n',c',hc,hwd⟩:=H.out.at hlt
   have hn':n'≤dt_ ls:=by rw[←hwd.len];exact m7_ _ _ (by rw[H.out.len];exact hlt)
   have HW:=hd_ hwd
   clear hwd
   have hk1:(k:Int) < (n:Int):=by omega
   go_wp2_with fail
   refine (dz_ _ _ _ _ _ HW.out).mono ?_
   rintro e w' ⟨m,rfl,Hm,hmn,HT,rfl⟩
   by_cases hNm:N≤m
   ·have hNi:(N:Int)≤(m:Int):=by omega
    go_wp2
    go_round
    case rel=>exact⟨k+1,m,by omega,by go_num,by first | rfl | (congr 1;omega) | (simp;omega),by omega⟩
    case measure=>simp[intOf];omega
   ·have hNi:(m:Int) < (N:Int):=by omega
    go_wp2
    go_round
    case rel=>exact⟨k+1,N,by omega,by go_num,by first | rfl | (congr 1;omega) | (simp;omega),by omega⟩
    case measure=>simp[intOf];omega
  ·go_wp2
   go_ret
   exact⟨N,rfl,hN,rfl⟩
theorem hw_(w:World)(row:Option Nat):w.grownBy w row:=⟨rfl,rfl,rfl,Nat.le_refl _,fun _ _ _=>rfl⟩
theorem da_{a b c:World}{row:Option Nat}(h:a.grownBy b row)(k:b.grownBy c row):a.grownBy c row:=
 ⟨k.os.trans h.os,k.tape.trans h.tape,k.output.trans h.output,Nat.le_trans h.size k.size,fun i hi hr=>(k.block i (Nat.lt_of_lt_of_le hi h.size) hr).trans (h.block i hi hr)⟩
theorem cq_(w:World)(g k:Nat)(u:Value):w.grownBy (w.setCell ⟨g,k,none⟩ u) (some g):=
 ⟨rfl,rfl,rfl,by simp[World.setCell],fun i _ hr=>Below.heap_setCell _ _ _ _ (fun e=>hr (by rw[e]))⟩
theorem ow_{a w:World}{row:Option Nat}(h:a.grownBy w row)(n:Nat):a.grownBy (w.drewN n) row:=da_ h ⟨rfl,rfl,rfl,Nat.le_refl _,fun _ _ _=>rfl⟩
theorem fm_{w0 w w':World}{g:Nat}(hB:Below w0.heap.size w0 w)(hg:w.grownBy w' (some g))(hb:w0.heap.size≤g):Below w0.heap.size w0 w':=
 hB.grown hg hB.size (fun k hk=>by cases hk;exact hb)
theorem Own.later{w w':World}{base g n cap:Nat}{l:List Nat}(h:Own w base g n cap l)(hb:Below w.heap.size w w'):Own w' base g n cap l:=by
 refine ⟨⟨h.1.1,?_⟩,h.2⟩
 rcases h.1.2 with h0 | ⟨g',cap',cur,h1,h2,h3,h4⟩
 ·exact .inl h0
 ·exact .inr ⟨g',cap',cur,h1,h2,(hb.block g' (Array.getElem?_eq_some_iff.1 h3).1).trans h3,h4⟩
theorem Own.l_ {w w':World}{x0 x1 x2 x3 x4}(h:Own w x0 x1 x2 x3 x4)(b:Below w.heap.size w w'):Hid (Own w' x0 x1 x2 x3 x4):=Lib.hid (h.later b)
theorem Own.other{w w':World}{base g g' n cap:Nat}{l:List Nat}(h:Own w base g n cap l)(hg:w.grownBy w' (some g'))(hne:g≠g'):Own w' base g n cap l:=
 ⟨h.1.kept hg (.inr (by simp[Value.ownBlock];exact hne)),h.2⟩
theorem Own.stay{w w':World}{base g n cap:Nat}{l:List Nat}(h:Own w base g n cap l)(hg:w.grownBy w' none):Own w' base g n cap l:=
 ⟨h.1.kept hg (.inr (by simp[Value.ownBlock])),h.2⟩
theorem Own.lower{w:World}{base base' g n cap:Nat}{l:List Nat}(h:Own w base g n cap l)(hb:base'≤base):Own w base' g n cap l:=
 ⟨⟨h.1.1,h.1.2.imp id fun ⟨g,cap,cur,h1,h2,h3⟩=>⟨g,cap,cur,h1,Nat.le_trans hb h2,h3⟩⟩,h.2⟩
theorem Own.bound{w:World}{base g n cap:Nat}{l:List Nat}(h:Own w base g n cap l):n≤cap∧cap≤9223372036854775807:=h.wd.bound
def Win (w:World) (base g off n:Nat) (l:List Nat):Prop:=∃(N cap:Nat) (P:List Nat),Own w base g N cap P∧off+n≤N∧l=(P.drop off).take n
theorem Win.len{w:World}{base g off n:Nat}{l:List Nat}(h:Win w base g off n l):l.length=n:=by
 obtain⟨N,cap,P,hO,hn,rfl⟩:=h
 have:=hO.len
 rw[List.length_take,List.length_drop]
 omega
theorem Win.ok{w:World}{base g off n:Nat}{l:List Nat}(h:Win w base g off n l):okw l:=by
 obtain⟨N,cap,P,hO,hn,rfl⟩:=h
 exact gi_ (i0_ hO.2 off) n
theorem Win.base{w:World}{base g off n:Nat}{l:List Nat}(h:Win w base g off n l):base≤g∧g < w.heap.size:=by
 obtain⟨N,cap,P,hO,_⟩:=h
 exact hO.base
theorem Win.cell{w:World}{base g off n:Nat}{l:List Nat}(h:Win w base g off n l){k:Nat}(hk:k < n):w.cell? ⟨g,off+k,none⟩=some (.int .u32 ((atw l k:Nat):Int)):=by
 obtain⟨N,cap,P,hO,hn,rfl⟩:=h
 rw[hO.cell (by omega),gf_ hk,ej_]
theorem Win.wd{w:World}{base g off n:Nat}{l:List Nat}(h:Win w base g off n l){c:Nat}(hc:n≤c)(hc2:c≤9223372036854775807):Wd w (some ⟨g,off,none⟩) n c l:=
 ⟨h.len,hc,hc2,h.ok,fun e=>(by cases e),.inr ⟨g,off,rfl,fun _ hj=>h.cell hj⟩⟩
theorem Win.set{w:World}{base g off n:Nat}{l:List Nat}(h:Win w base g off n l){k r:Nat}(hr:r < 4294967296):Win (w.setCell ⟨g,off+k,none⟩ (.int .u32 ((r:Nat):Int))) base g off n (l.set k r):=by
 obtain⟨N,cap,P,hO,hn,rfl⟩:=h
 refine ⟨N,cap,P.set (off+k) r,hO.set _ _ hr,hn,?_⟩
 rw[List.drop_set,if_neg (by omega),List.take_set,Nat.add_sub_cancel_left]
theorem Win.take{w:World}{base g off n:Nat}{l:List Nat}(h:Win w base g off n l){m:Nat}(hm:m≤n):Win w base g off m (l.take m):=by
 obtain⟨N,cap,P,hO,hn,rfl⟩:=h
 exact⟨N,cap,P,hO,by omega,by rw[List.take_take,Nat.min_eq_left hm]⟩
theorem Win.drop{w:World}{base g off q m:Nat}{l:List Nat}(h:Win w base g off (q+m) l):Win w base g (off+q) m (l.drop q):=by
 obtain⟨N,cap,P,hO,hn,rfl⟩:=h
 exact⟨N,cap,P,hO,by omega,by rw[List.drop_take,List.drop_drop,Nat.add_sub_cancel_left]⟩
theorem Win.later{w w':World}{base g off n:Nat}{l:List Nat}(h:Win w base g off n l)(hb:Below w.heap.size w w'):Win w' base g off n l:=by
 obtain⟨N,cap,P,hO,hn,hl⟩:=h
 exact⟨N,cap,P,hO.later hb,hn,hl⟩
theorem Win.l_ {w w':World}{x0 x1 x2 x3 x4}(h:Win w x0 x1 x2 x3 x4)(b:Below w.heap.size w w'):Hid (Win w' x0 x1 x2 x3 x4):=Lib.hid (h.later b)
theorem Win.other{w w':World}{base g g' off n:Nat}{l:List Nat}(h:Win w base g off n l)(hg:w.grownBy w' (some g'))(hne:g≠g'):Win w' base g off n l:=by
 obtain⟨N,cap,P,hO,hn,hl⟩:=h
 exact⟨N,cap,P,hO.other hg hne,hn,hl⟩
theorem Win.lower{w:World}{base base' g off n:Nat}{l:List Nat}(h:Win w base g off n l)(hb:base'≤base):Win w base' g off n l:=by
 obtain⟨N,cap,P,hO,hn,hl⟩:=h
 exact⟨N,cap,P,hO.lower hb,hn,hl⟩
theorem Wd.kept{w w':World}{a:Option Addr}{n cap:Nat}{l:List Nat}{row:Option Nat}(h:Wd w a n cap l)(hg:w.grownBy w' row)(hne:∀ad:Addr,a=some ad→some ad.block≠row):Wd w' a n cap l:=
 ⟨h.1,h.2.1,h.2.2.1,h.2.2.2.1,h.2.2.2.2.1,h.2.2.2.2.2.imp id fun ⟨b,off,e,hc⟩=>⟨b,off,e,fun j hj=>hg.cell (hc j hj) (hne ⟨b,off,none⟩ e)⟩⟩
def m1_ (w:World) (a:Addr):Nat:=match w.cell? a with | some (.int _ z)=>z.toNat | _=>0
def mj_ (w:World):Value→Nat
 | .slice (some a) n _=>val ((List.range n).map fun j=>m1_ w ⟨a.block,a.off+j,none⟩)
 | _=>0
theorem Wd.held{w:World}{b off n cap:Nat}{l:List Nat}(h:Wd w (some ⟨b,off,none⟩) n cap l):mj_ w (.slice (some ⟨b,off,none⟩) n cap)=val l:=by
 show val ((List.range n).map fun j=>m1_ w ⟨b,off+j,none⟩)=val l
 apply congrArg val
 apply mh_
 ·simp[h.len]
 ·intro j hj
  simp at hj
  obtain⟨b',off',e,hc⟩:=h.at (by omega)
  simp only[Option.some.injEq,Addr.mk.injEq,and_true] at e
  obtain⟨rfl,rfl⟩:=e
  unfold atw
  rw[List.getD_eq_getElem?_getD,List.getElem?_map,List.getElem?_range hj]
  show m1_ w ⟨b,off+j,none⟩=_
  unfold m1_
  rw[hc j hj]
  show (((atw l j:Nat):Int)).toNat=_
  rw[Int.toNat_natCast];rfl
def nf_:List UInt8→Nat→Int
 | [],_=>-1
 | x :: r,i=>if x.toNat < 48∨57 < x.toNat∨60≤i then (i:Int) else nf_ r (i+1)
def js_ (l:List UInt8):Int:=if l=[] then 0 else nf_ l 0
def o6_ (l:List UInt8):Nat:=l.foldl (fun n x=>n * 10+(x.toNat - 48)) 0
def Dec10 (w:World):Prop:=w=w
theorem Dec10.later{w w':World}(_:Dec10 w)(_:Below w.heap.size w w'):Dec10 w':=rfl
theorem Dec10.l_ {w w':World}(h:Dec10 w)(b:Below w.heap.size w w'):Hid (Dec10 w'):=Lib.hid (h.later b)
theorem Dec10.all(w:World):Dec10 w:=rfl
structure DigitsSaid:Prop where
def Box (w:World) (g:Nat) (k s t a:Int):Prop:=
 w.cell? ⟨g,0,none⟩=some (.int .i64 k)∧w.cell? ⟨g,1,none⟩=some (.int .i64 s)∧w.cell? ⟨g,2,none⟩=some (.int .i64 t)∧w.cell? ⟨g,3,none⟩=some (.int .i64 a)
theorem Box.later{w w':World}{g:Nat}{k s t a:Int}(h:Box w g k s t a)(hb:Below w.heap.size w w'):Box w' g k s t a:=
 ⟨cell_later hb h.1,cell_later hb h.2.1,cell_later hb h.2.2.1,cell_later hb h.2.2.2⟩
theorem Box.l_ {w w':World}{x0 x1 x2 x3 x4}(h:Box w x0 x1 x2 x3 x4)(b:Below w.heap.size w w'):Hid (Box w' x0 x1 x2 x3 x4):=Lib.hid (h.later b)
theorem Box.new(w:World)(k s t a:Int)(e:TypeId):Box (w.alloc (.cells #[.int .i64 k,.int .i64 s,.int .i64 t,.int .i64 a] e)) w.heap.size k s t a:=⟨by simp,by simp,by simp,by simp⟩
theorem ik_(w:World)(base:Nat)(e:TypeId)(z:Value)(q c:Nat)(hqc:q≤c)(hc:c≤maxLen)(hb:base≤w.heap.size) :
 (w.alloc (.cells (madeCells #[z] c) e)).ownsRow base e 1 (.slice (some ⟨w.heap.size,0,none⟩) q c) q (List.replicate q z):=by
 refine ⟨by simp,.inr ⟨w.heap.size,c,madeCells #[z] c,rfl,hb,heap_alloc_new w _,hqc,hc,?_,?_⟩⟩
 ·have:=congrArg List.length (toList_madeCells_one z c)
  simpa using this
 ·rw[toList_madeCells_one,List.take_replicate,Nat.mul_one,Nat.min_eq_left hqc]
theorem cx_{P:Program}(w:World){ops:Array Oper}{rest:List Oper}{o:Oper}{a:Act}{Q:Exit→Act→World→Prop}
 (hg:o.guard=none) (l c:Operand) (t:TypeId) (hop:o.op=Op.makeSlice t l c)
 (base:Nat) (e:TypeId) (i:TypeInfo) (z:Value) (h1:P.underlying t=some (.slice e)) (h2:P.info? e=some i) (h3:i.zero=some z) (h4:i.size=1) (hz:z.cells=#[z])
 (kl kc:IntKind) (L C:Int) (n m:Nat) (hl:a.eval l=.int kl L) (hc:a.eval c=.int kc C) (hL:L=(n:Int)) (hC:C=(m:Int)) (hnm:n≤m) (b2:i.bytes * m≤281474976710656) (b3:m≤maxLen) (b4:base≤w.heap.size)
 (hK:∀w',w'.ownsRow base e 1 (.slice (some ⟨w.heap.size,0,none⟩) n m) n (List.replicate n z)→w.grownBy w' none→wpList P ops Q rest (a.put o.dst (.slice (some ⟨w.heap.size,0,none⟩) n m)) w') :
 wpList P ops Q (o :: rest) a w:=by
 refine wpList_plain hg fun K hK'=>?_
 have h63':(m:Int)≤9223372036854775807:=by
  have h:=b3
  simp[maxLen] at h
  omega
 have hb':(i.bytes:Int) * (m:Int)≤281474976710656:=by
  have h:((i.bytes * m:Nat):Int)≤281474976710656:=by omega
  rwa [Int.natCast_mul] at h
 have hrun:=run_make (P:=P) w t e i z h1 h2 h3 kl kc n m (by omega) (by omega) hb' h63'
 simp only[Int.toNat_natCast,h4,Nat.mul_one,hz] at hrun
 subst hL
 subst hC
 unfold Oper.wp
 simp[execOp,hop,hl,hc,hrun,Result.andThen]
 exact hK' _ _ (hK _ (ik_ w base e z n m hnm b3 b4) (World.grownBy_alloc w _ none))
theorem er_(n:Nat):List.replicate n (Value.int .u32 0)=cl_ (List.replicate n 0):=by simp[cl_]
theorem Own.drewN{w:World}{base g n cap:Nat}{l:List Nat}(h:Own w base g n cap l)(q:Nat):Own (w.drewN q) base g n cap l:=h
theorem Own.drew{w:World}{base g n cap:Nat}{l:List Nat}(h:Own w base g n cap l):Own w.drew base g n cap l:=h

theorem sgn_neg{z:Int}(h:z < 0):sgn z = -1:=by unfold sgn;rw[if_neg (by omega),if_pos h]
def ht_ (z:Int):Prop:=-9223372036854775808≤z∧z≤9223372036854775807
instance (z:Int):Decidable (ht_ z):=by unfold ht_;infer_instance
def p5_:List UInt8→Int
 | [] => 0
 | x :: r=>if x.toNat=45 then (if js_ r < 0 then -1 else 1+js_ r) else js_ (x :: r)
def zread:List UInt8→Int
 | [] => 0
 | x :: r=>if x.toNat=45 then zval true (o6_ r) else zval false (o6_ (x :: r))
theorem lo_(v:Nat):zval false v=(v:Int):=rfl
theorem zval_true(v:Nat):zval true v = -(v:Int):=rfl
theorem zlen_add(x y:Int):(dg (x+y).natAbs).length≤(dg x.natAbs).length+(dg y.natAbs).length+1:=Nat.le_trans (az_ (Int.natAbs_add_le x y)) (fi_ _ _)
theorem hh_(x y:Int):(dg (x * y).natAbs).length≤(dg x.natAbs).length+(dg y.natAbs).length:=by rw[Int.natAbs_mul];exact b1_ _ _
open Go.ChangeShapes Go.WideShapes Go.ChangeAt Go.RowKit
section
variable {H:Type} {enc:TypeId × Value→H} {P:Program} {W:World} {base:Nat}
theorem ma_{zs:List Int}(h:∀n∈zs,(Lit.int .u32 n).wf=true):∃l:List Nat,zs=l.map (fun x=>((x:Nat):Int))∧okw l:=by
 refine ⟨zs.map Int.toNat,?_,?_⟩
 ·rw[List.map_map]
  have:∀z∈zs,((fun x=>((x:Nat):Int)) ∘ Int.toNat) z=z:=fun z hz=>by
   have:=bounds_u32 (h z hz)
   show ((z.toNat:Nat):Int)=z
   omega
  conv=>lhs;rw[←List.map_id zs]
  exact List.map_congr_left (fun z hz=>(this z hz).symm)
 ·intro x hx
  obtain⟨z,hz,rfl⟩:=List.mem_map.1 hx
  have:=bounds_u32 (h z hz)
  omega
theorem q0_(l:List Nat)(j:Nat):(l.map fun x=>((x:Nat):Int)).getD j 0=((atw l j:Nat):Int):=by
 unfold atw
 rw[List.getD_eq_getElem?_getD,List.getD_eq_getElem?_getD,List.getElem?_map]
 cases l[j]? <;> rfl
theorem Wd.ofInts{a:Option Addr}{len cap:Nat}{zs:List Int}(hl:len≤cap)(hm:cap≤maxLen)(hn:a=none→cap=0)(hz:len≤zs.length)(hw:∀n∈zs,(Lit.int .u32 n).wf=true)
 (hc:∀a',a=some a'→∀i,i < len→W.cell? (a'.add i)=some (.int .u32 (zs.getD i 0))):∃l,Wd W a len cap l:=by
 obtain⟨l,rfl,ho⟩:=ma_ hw
 have hll:(l.take len).length=len:=by rw[List.length_take];simp at hz;omega
 refine ⟨l.take len,hll,hl,by unfold maxLen at hm;omega,gi_ ho len,hn,?_⟩
 by_cases h0:len=0
 ·exact .inl h0
 ·cases a with
  | none=>have:=hn rfl;omega
  | some a'=>
    obtain⟨b,off,spot⟩:=a'
    have hspot:spot=none:=by simpa [Addr.add] using World.cell?_spot (hc _ rfl 0 (by omega))
    subst hspot
    refine .inr ⟨b,off,rfl,fun j hj=>?_⟩
    rw[←add_plain,hc _ rfl j hj,q0_,gf_ hj]
end
end Go.Proofs.YtocebjbjnfammaaGreat
