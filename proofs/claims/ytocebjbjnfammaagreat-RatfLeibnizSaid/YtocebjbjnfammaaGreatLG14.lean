import Derived.Test.YtocebjbjnfammaaGreatLG2
import Derived.Test.YtocebjbjnfammaaGreatLG6
import Derived.Test.YtocebjbjnfammaaGreatLG7
import Derived.BigRegion
import Derived.Deep.RegionHeld3
import Derived.Test.YtocebjbjnfammaaGreatLG13
import Derived.Test.YtocebjbjnfammaaGreatLG3
import Derived.Test.YtocebjbjnfammaaGreatLG1
set_option maxRecDepth 4096
set_option maxHeartbeats 16000000
namespace Go.Proofs.YtocebjbjnfammaaGreat
open Go.RowKit
def ed_ (A B x z:Nat):Nat:=x * A - z * B+(z * B - x * A)
theorem gapOf_two(A B:Nat):ed_ A B 0 1=B:=by unfold ed_;omega
structure Way (α β a b ya yb na nb:Nat):Prop where
 side:(ya * α=a+yb * β∧nb * β=b+na * α∧ya * nb=yb * na+1)∨(yb * β=a+ya * α∧na * α=b+nb * β∧yb * na=ya * nb+1)
 sum:nb * a+yb * b=α
 le:na≤nb
 les:ya+na≤yb+nb
 pos:1≤nb
 ord:b≤a
theorem way_start{α β:Nat}(h:β≤α):Way α β α β 1 0 0 1:=⟨.inl ⟨by omega,by omega,by omega⟩,by omega,by omega,by omega,by omega,h⟩
theorem p8_{α β a b ya yb na nb:Nat}(h:Way α β a b ya yb na nb)(hb:nb≤b):Way α β b (a % b) na nb (ya+a / b * na) (yb+a / b * nb):=by
 have h0:0 < b:=by have:=h.pos;omega
 have hq:=Nat.div_add_mod a b
 have hr:=Nat.mod_lt a h0
 have hq1:1≤a / b:=(Nat.le_div_iff_mul_le h0).2 (by have:=h.ord;omega)
 generalize a / b=q at *
 generalize a % b=r at *
 subst hq
 have e1:b * q * nb=q * nb * b:=by rw[Nat.mul_comm b q,Nat.mul_assoc,Nat.mul_comm b nb,←Nat.mul_assoc]
 refine ⟨?_,?_,?_,?_,?_,by omega⟩
 ·have p1:∀z:Nat,q * na * z=q * (na * z):=fun z=>Nat.mul_assoc _ _ _
  have p2:∀z:Nat,q * nb * z=q * (nb * z):=fun z=>Nat.mul_assoc _ _ _
  have p3:nb * (q * na)=q * (nb * na):=by rw[Nat.mul_left_comm]
  have p4:na * (q * nb)=q * (nb * na):=by rw[Nat.mul_left_comm,Nat.mul_comm na nb]
  have p5:b * q=q * b:=Nat.mul_comm _ _
  have p6:na * yb=yb * na:=Nat.mul_comm _ _
  have p7:nb * ya=ya * nb:=Nat.mul_comm _ _
  rcases h.side with ⟨h1,h2,h3⟩ | ⟨h1,h2,h3⟩
  ·have h4:q * (nb * β)=q * b+q * (na * α):=by rw[h2,Nat.mul_add]
   right
   refine ⟨by omega,?_,?_⟩
   ·rw[Nat.add_mul,Nat.add_mul,p1,p2];omega
   ·rw[Nat.mul_add,Nat.mul_add,p3,p4];omega
  ·have h4:q * (na * α)=q * b+q * (nb * β):=by rw[h2,Nat.mul_add]
   left
   refine ⟨by omega,?_,?_⟩
   ·rw[Nat.add_mul,Nat.add_mul,p1,p2];omega
   ·rw[Nat.mul_add,Nat.mul_add,p3,p4];omega
 ·have h1:=h.sum
  rw[Nat.add_mul,←h1,Nat.mul_add nb,show nb * (b * q)=q * nb * b by rw[←e1,Nat.mul_comm]]
  omega
 ·obtain⟨k,rfl⟩:∃k,q=k+1:=⟨q - 1,by omega⟩
  have h1:k * na≤k * nb:=Nat.mul_le_mul_left _ h.le
  have h2:=h.les
  rw[Nat.add_mul,Nat.add_mul];omega
 ·have h1:q * na≤q * nb:=Nat.mul_le_mul_left _ h.le
  have h2:=h.les
  have h3:=h.le
  omega
 ·have h1:1 * nb≤q * nb:=Nat.mul_le_mul_right _ hq1
  have h2:=h.pos
  omega
theorem way_true{A B M a b ya yb na nb:Nat}(hM:0 < M)(h:Way (A / M) (B / M) a b ya yb na nb)(hb:nb≤b)(hab:yb+nb≤a - b) :
 ed_ A B na nb < ed_ A B ya yb∧Nat.gcd (ed_ A B ya yb) (ed_ A B na nb)=Nat.gcd A B:=by
 have hA:=Nat.div_add_mod A M
 have hB:=Nat.div_add_mod B M
 have hA0:=Nat.mod_lt A hM
 have hB0:=Nat.mod_lt B hM
 generalize A / M=α at *
 generalize B / M=β at *
 generalize A % M=A0 at *
 generalize B % M=B0 at *
 obtain⟨d,rfl⟩:∃d,a=b+d:=⟨a - b,by have:=h.ord;omega⟩
 have hd:yb+nb≤d:=by omega
 have hle:=h.le
 have hles:=h.les
 have hpos:=h.pos
 have k1:na * A0≤b * M:=Nat.mul_le_mul (by omega) (by omega)
 have k2:nb * B0≤b * M:=Nat.mul_le_mul (by omega) (by omega)
 have k3:(yb+nb) * M≤d * M:=Nat.mul_le_mul_right _ hd
 have k4:(yb+nb) * B0 < (yb+nb) * M:=Nat.mul_lt_mul_of_pos_left hB0 (by omega)
 have k5:(ya+na) * A0≤(yb+nb) * A0:=Nat.mul_le_mul_right _ hles
 have k6:(yb+nb) * A0 < (yb+nb) * M:=Nat.mul_lt_mul_of_pos_left hA0 (by omega)
 simp only[Nat.add_mul] at k3 k4 k5 k6
 have x1:∀z:Nat,z * (M * α+A0)=M * (z * α)+z * A0:=fun z=>by rw[Nat.mul_add,Nat.mul_left_comm]
 have x2:∀z:Nat,z * (M * β+B0)=M * (z * β)+z * B0:=fun z=>by rw[Nat.mul_add,Nat.mul_left_comm]
 have y1:=x1 ya
 have y2:=x2 yb
 have y3:=x1 na
 have y4:=x2 nb
 rw[hA] at y1 y3
 rw[hB] at y2 y4
 have hbM:b * M=M * b:=Nat.mul_comm _ _
 have hdM:d * M=M * d:=Nat.mul_comm _ _
 rcases h.side with ⟨h1,h2,h3⟩ | ⟨h1,h2,h3⟩
 ·have z1:M * (ya * α)=M * b+M * d+M * (yb * β):=by rw[h1,Nat.mul_add,Nat.mul_add]
  have z2:M * (nb * β)=M * b+M * (na * α):=by rw[h2,Nat.mul_add]
  have g1:yb * B≤ya * A:=by omega
  have g2:na * A≤nb * B:=by omega
  have r1:ed_ A B ya yb=ya * A - yb * B:=by unfold ed_;omega
  have r2:ed_ A B na nb=nb * B - na * A:=by unfold ed_;omega
  rw[r1,r2]
  refine ⟨by omega,?_⟩
  obtain⟨R,hR⟩:∃R,ya * A=R+yb * B:=⟨ya * A - yb * B,by omega⟩
  obtain⟨S,hS⟩:∃S,nb * B=S+na * A:=⟨nb * B - na * A,by omega⟩
  rw[hR,hS,Nat.add_sub_cancel,Nat.add_sub_cancel]
  have eA:A=nb * R+yb * S:=by
   have e1:nb * (ya * A)=nb * R+nb * (yb * B):=by rw[hR,Nat.mul_add]
   have e2:yb * (nb * B)=yb * S+yb * (na * A):=by rw[hS,Nat.mul_add]
   have e3:nb * (yb * B)=yb * (nb * B):=Nat.mul_left_comm _ _ _
   have e4:nb * (ya * A)=yb * (na * A)+A:=by rw[←Nat.mul_assoc,Nat.mul_comm nb ya,h3,Nat.add_mul,Nat.mul_assoc,Nat.one_mul]
   omega
  have eB:B=na * R+ya * S:=by
   have e1:na * (ya * A)=na * R+na * (yb * B):=by rw[hR,Nat.mul_add]
   have e2:ya * (nb * B)=ya * S+ya * (na * A):=by rw[hS,Nat.mul_add]
   have e3:na * (ya * A)=ya * (na * A):=Nat.mul_left_comm _ _ _
   have e4:ya * (nb * B)=na * (yb * B)+B:=by rw[←Nat.mul_assoc,h3,Nat.add_mul,Nat.one_mul,Nat.mul_comm yb na,Nat.mul_assoc]
   omega
  apply Nat.dvd_antisymm
  ·have d1:=Nat.gcd_dvd_left R S
   have d2:=Nat.gcd_dvd_right R S
   refine Nat.dvd_gcd ?_ ?_
   ·conv=>rhs;rw[eA]
    exact Nat.dvd_add (Nat.dvd_mul_left_of_dvd d1 _) (Nat.dvd_mul_left_of_dvd d2 _)
   ·conv=>rhs;rw[eB]
    exact Nat.dvd_add (Nat.dvd_mul_left_of_dvd d1 _) (Nat.dvd_mul_left_of_dvd d2 _)
  ·have d1:=Nat.gcd_dvd_left A B
   have d2:=Nat.gcd_dvd_right A B
   refine Nat.dvd_gcd ?_ ?_
   ·exact (Nat.dvd_add_iff_left (Nat.dvd_mul_left_of_dvd d2 yb)).2 (hR▸Nat.dvd_mul_left_of_dvd d1 ya)
   ·exact (Nat.dvd_add_iff_left (Nat.dvd_mul_left_of_dvd d1 na)).2 (hS▸Nat.dvd_mul_left_of_dvd d2 nb)
 ·have z1:M * (yb * β)=M * b+M * d+M * (ya * α):=by rw[h1,Nat.mul_add,Nat.mul_add]
  have z2:M * (na * α)=M * b+M * (nb * β):=by rw[h2,Nat.mul_add]
  have g1:ya * A≤yb * B:=by omega
  have g2:nb * B≤na * A:=by omega
  have r1:ed_ A B ya yb=yb * B - ya * A:=by unfold ed_;omega
  have r2:ed_ A B na nb=na * A - nb * B:=by unfold ed_;omega
  rw[r1,r2]
  refine ⟨by omega,?_⟩
  obtain⟨R,hR⟩:∃R,yb * B=R+ya * A:=⟨yb * B - ya * A,by omega⟩
  obtain⟨S,hS⟩:∃S,na * A=S+nb * B:=⟨na * A - nb * B,by omega⟩
  rw[hR,hS,Nat.add_sub_cancel,Nat.add_sub_cancel]
  have eA:A=nb * R+yb * S:=by
   have e1:nb * (yb * B)=nb * R+nb * (ya * A):=by rw[hR,Nat.mul_add]
   have e2:yb * (na * A)=yb * S+yb * (nb * B):=by rw[hS,Nat.mul_add]
   have e3:nb * (yb * B)=yb * (nb * B):=Nat.mul_left_comm _ _ _
   have e4:yb * (na * A)=nb * (ya * A)+A:=by rw[←Nat.mul_assoc,h3,Nat.add_mul,Nat.one_mul,Nat.mul_comm ya nb,Nat.mul_assoc]
   omega
  have eB:B=na * R+ya * S:=by
   have e1:na * (yb * B)=na * R+na * (ya * A):=by rw[hR,Nat.mul_add]
   have e2:ya * (na * A)=ya * S+ya * (nb * B):=by rw[hS,Nat.mul_add]
   have e3:na * (ya * A)=ya * (na * A):=Nat.mul_left_comm _ _ _
   have e4:na * (yb * B)=ya * (nb * B)+B:=by rw[←Nat.mul_assoc,Nat.mul_comm na yb,h3,Nat.add_mul,Nat.mul_assoc,Nat.one_mul]
   omega
  apply Nat.dvd_antisymm
  ·have d1:=Nat.gcd_dvd_left R S
   have d2:=Nat.gcd_dvd_right R S
   refine Nat.dvd_gcd ?_ ?_
   ·conv=>rhs;rw[eA]
    exact Nat.dvd_add (Nat.dvd_mul_left_of_dvd d1 _) (Nat.dvd_mul_left_of_dvd d2 _)
   ·conv=>rhs;rw[eB]
    exact Nat.dvd_add (Nat.dvd_mul_left_of_dvd d1 _) (Nat.dvd_mul_left_of_dvd d2 _)
  ·have d1:=Nat.gcd_dvd_left A B
   have d2:=Nat.gcd_dvd_right A B
   refine Nat.dvd_gcd ?_ ?_
   ·exact (Nat.dvd_add_iff_left (Nat.dvd_mul_left_of_dvd d1 ya)).2 (hR▸Nat.dvd_mul_left_of_dvd d2 yb)
   ·exact (Nat.dvd_add_iff_left (Nat.dvd_mul_left_of_dvd d2 nb)).2 (hS▸Nat.dvd_mul_left_of_dvd d1 na)
structure Good (A B xa xb ya yb:Nat):Prop where
 lt:ed_ A B ya yb < ed_ A B xa xb
 gcd:Nat.gcd (ed_ A B xa xb) (ed_ A B ya yb)=Nat.gcd A B
 second:ed_ A B ya yb≤B
 first:xb=0∨ed_ A B xa xb≤B
structure Heads (A B M a b xa xb ya yb na nb:Nat):Prop where
 way:Way (A / M) (B / M) a b ya yb na nb
 wx:xa < 4294967296∧xb < 4294967296
 wy:ya < 4294967296∧yb < 4294967296
 wn:na < 18446744073709551616∧nb < 18446744073709551616
 here:(xb=0∧ya=1∧yb=0∧na=0∧nb=1)∨Good A B xa xb ya yb
theorem o1_{A B M:Nat}(h:B≤A):Heads A B M (A / M) (B / M) 0 0 1 0 0 1:=⟨way_start (Nat.div_le_div_right h),by omega,by omega,by omega,.inl ⟨rfl,rfl,rfl,rfl,rfl⟩⟩
theorem kt_{A B M a b xa xb ya yb na nb:Nat}(h:Heads A B M a b xa xb ya yb na nb)(hα:A / M < 18446744073709551616)(hb:nb≤b):na < 4294967296∧nb < 4294967296:=by
 have h1:=h.way.sum
 have h2:=h.way.le
 have h3:=h.way.ord
 have h4:nb * nb≤nb * a:=Nat.mul_le_mul_left _ (by omega)
 have h5:nb < 4294967296:=by
  rcases Nat.lt_or_ge nb 4294967296 with h6 | h6
  ·exact h6
  ·have h7:4294967296 * 4294967296≤nb * nb:=Nat.mul_le_mul h6 h6
   omega
 omega
theorem k4_{A B M a b xa xb ya yb na nb:Nat}(h:Heads A B M a b xa xb ya yb na nb)(hα:A / M < 18446744073709551616)(hb:nb≤b) :
 a / b * na < 18446744073709551616∧a / b * nb < 18446744073709551616∧ya+a / b * na < 18446744073709551616∧yb+a / b * nb < 18446744073709551616:=by
 have h1:=p8_ h.way hb
 have h2:=h1.sum
 have h3:=h1.le
 have h4:=h.way.pos
 have h5:(yb+a / b * nb) * 1≤(yb+a / b * nb) * b:=Nat.mul_le_mul_left _ (by omega)
 omega
theorem rf_{A B M a b xa xb ya yb na nb:Nat}(hM:0 < M)(h:Heads A B M a b xa xb ya yb na nb)(hα:A / M < 18446744073709551616)(hb:nb≤b)(hab:yb+nb≤a - b) :
 Heads A B M b (a % b) ya yb na nb (ya+a / b * na) (yb+a / b * nb):=by
 obtain⟨_,_,r3,r4⟩:=k4_ h hα hb
 obtain⟨t1,t2⟩:=way_true hM h.way hb hab
 refine ⟨p8_ h.way hb,h.wy,kt_ h hα hb,⟨r3,r4⟩,.inr ⟨t1,t2,?_,?_⟩⟩
 ·rcases h.here with ⟨_,rfl,rfl,rfl,rfl⟩ | g
  ·rw[gapOf_two];exact Nat.le_refl _
  ·have:=g.second;omega
 ·rcases h.here with ⟨_,rfl,rfl,rfl,rfl⟩ | g
  ·exact .inl rfl
  ·exact .inr g.second
theorem head_word{l:List Nat}{k s:Nat}(ho:okw l)(hs:s≤31)(hv:val l < 2 ^ (32 * (k+3) - s)) :
 atw l (k+2) * 4294967296+atw l (k+1) < 2 ^ (64 - s)∧atw l k / 2 ^ (32 - s) < 2 ^ s∧(atw l (k+2) * 4294967296+atw l (k+1)) * 2 ^ s+atw l k / 2 ^ (32 - s)=val l / 2 ^ (32 * k+(32 - s)):=by
 have e1:val l / 2 ^ (32 * k)=top l k:=(top_div ho k).symm
 have e2:top l k < 2 ^ (96 - s):=by
  rw[←e1]
  rw[Nat.div_lt_iff_lt_mul (Nat.two_pow_pos _),←Nat.pow_add,show 96 - s+32 * k=32 * (k+3) - s by omega]
  exact hv
 have h1:top l k=atw l k+4294967296 * top l (k+1):=ca_ l k
 have h2:top l (k+1)=atw l (k+1)+4294967296 * top l (k+2):=ca_ l (k+1)
 have h3:top l (k+2)=atw l (k+2)+4294967296 * top l (k+3):=ca_ l (k+2)
 have h4:2 ^ (96 - s)≤(79228162514264337593543950336:Nat):=by
  rw[show (79228162514264337593543950336:Nat)=2 ^ 96 by decide]
  exact Nat.pow_le_pow_right (by decide) (by omega)
 have hw:=b0_ ho k
 have hP:2 ^ s * 2 ^ (32 - s)=(4294967296:Nat):=by rw[←Nat.pow_add,show s+(32 - s)=32 by omega]
 have hQ:2 ^ (64 - s) * 4294967296=2 ^ (96 - s):=by rw[show (4294967296:Nat)=2 ^ 32 by decide,←Nat.pow_add,show 64 - s+32=96 - s by omega]
 have e5:val l / 2 ^ (32 * k+(32 - s))=top l k / 2 ^ (32 - s):=by rw[Nat.pow_add,←Nat.div_div_eq_div_mul,e1]
 have hp:=Nat.two_pow_pos (32 - s)
 rw[e5]
 clear e1 e5 hv
 generalize 2 ^ (32 - s)=P at *
 generalize 2 ^ (96 - s)=Q at *
 generalize 2 ^ (64 - s)=R at *
 generalize 2 ^ s=S at *
 generalize atw l k=x0 at *
 generalize atw l (k+1)=x1 at *
 generalize atw l (k+2)=x2 at *
 generalize top l (k+3)=t3 at *
 generalize top l (k+2)=t2 at *
 generalize top l (k+1)=t1 at *
 generalize top l k=t0 at *
 have e3:t3=0:=by omega
 have e4:t0=(x2 * 4294967296+x1) * 4294967296+x0:=by omega
 refine ⟨by omega,?_,?_⟩
 ·rw[Nat.div_lt_iff_lt_mul hp,hP];exact hw
 ·have e6:(x2 * 4294967296+x1) * 4294967296=P * ((x2 * 4294967296+x1) * S):=by
   rw[←hP]
   generalize x2 * (S * P)+x1=H
   rw[Nat.mul_comm S P,Nat.mul_left_comm]
  rw[e4,e6,Nat.mul_add_div hp]
theorem head_room{l:List Nat}{n:Nat}(ho:okw l)(hl:l.length=n)(hn:3≤n)(h0:atw l (n - 1)≠0):val l < 2 ^ (32 * n - (32 - blen (atw l (n - 1)))):=by
 obtain⟨i,rfl⟩:∃i,n=i+1:=⟨n - 1,by omega⟩
 rw[Nat.add_sub_cancel] at h0 ⊢
 have h1:=jb_ ho (i:=i) (by rw[gs_ (by omega)]) h0
 have h2:=kj_ (val l)
 have h3:blen (atw l i)≤32:=blen_le.2 (b0_ ho i)
 rw[h1] at h2
 rw[show 32 * (i+1) - (32 - blen (atw l i))=32 * i+blen (atw l i) by omega]
 exact h2
theorem fs_{X Y:Nat}(h:Y≠0):Nat.gcd Y (X % Y)=Nat.gcd X Y∧X % Y < Y:=by
 refine ⟨?_,Nat.mod_lt _ (Nat.pos_of_ne_zero h)⟩
 rw[Nat.gcd_comm X Y,Nat.gcd_rec Y X,Nat.gcd_comm]
theorem rw_(x y:Nat)(hx:x < 18446744073709551616)(hy:y < 18446744073709551616):bits .or .u64 (x:Int) (y:Int)=((x ||| y:Nat):Int):=by
 have h1:(BitVec.ofInt 64 (x:Int)).toNat=x:=by rw[BitVec.ofInt_natCast,BitVec.toNat_ofNat];exact Nat.mod_eq_of_lt (by omega)
 have h2:(BitVec.ofInt 64 (y:Int)).toNat=y:=by rw[BitVec.ofInt_natCast,BitVec.toNat_ofNat];exact Nat.mod_eq_of_lt (by omega)
 have h3:x ||| y < 2 ^ 64:=Nat.or_lt_two_pow (by omega) (by omega)
 show IntKind.u64.wrap ((BitVec.ofInt 64 (x:Int) ||| BitVec.ofInt 64 (y:Int)).toNat:Int)=_
 rw[BitVec.toNat_or,h1,h2,IntKind.wrap_u64]
 omega
theorem or_high{h s y:Nat}(hh:h * 2 ^ s < 18446744073709551616)(hy:y < 2 ^ s)(hs:s≤64):bits .or .u64 ((h * 2 ^ s:Nat):Int) (y:Int)=((h * 2 ^ s+y:Nat):Int):=by
 have hy2:y < 18446744073709551616:=Nat.lt_of_lt_of_le hy (show 2 ^ s≤2 ^ 64 from Nat.pow_le_pow_right (by decide) hs)
 rw[rw_ _ _ hh hy2]
 have:=Nat.two_pow_add_eq_or_of_lt hy h
 rw[Nat.mul_comm h,this]
theorem g2_(a:OA_)(n cap k x:Nat)(l:List Nat)(w:World)(h:Wd w a n cap l)(hk:k≤9223372036854775807)(hx:Hid (x=atw l k)) :
 Calls Tryz.prog 171 #[.slice a n cap,.int .i64 (k:Int)] w fun e w'=>e=.returned (.int .u64 (x:Int))∧w=w':=by
 obtain⟨hb1,hb2⟩:=h.bound
 by_cases hlt:k < n
 ·obtain⟨b,off,rfl,hc⟩:=h.at (by omega)
  have hck:=hc k hlt
  have hw:=b0_ h.ok k
  rw[←hx.out] at hck hw
  clear hc h
  go_enter Tryz.func171,Tryz.ntmps171
  go_wp2
  go_ret
  exact⟨rfl,rfl⟩
 ·have ha:x=0:=by rw[hx.out];exact lj_ (by have:=h.len;omega)
  subst ha
  clear h
  go_enter Tryz.func171,Tryz.ntmps171
  go_wp2
  go_ret
  exact⟨rfl,rfl⟩
theorem bits_lz32(x:Nat)(w:World)(h1:x < 4294967296) :
 Calls Tryz.prog 162 #[.int .u32 (x:Int)] w fun e w'=>e=.returned (.int .i64 ((32 - blen x:Nat):Int))∧w=w':=by
 have hb:blen x≤32:=blen_le.2 (by omega)
 have Hb:=hd_ (kb_ (x:=x) (by omega))
 obtain⟨y,hy⟩:∃y,y=blen x:=⟨_,rfl⟩
 rw[←hy] at hb Hb ⊢
 obtain⟨z,hz⟩:∃z:Nat,32 - (y:Int)=(z:Int):=⟨32 - y,by omega⟩
 have Hz:Hid (z=32 - y):=hd_ (by omega)
 clear hy
 go_enter Tryz.func162,Tryz.ntmps162
 go_wp2_with fail
 refine (lw_ (x:Int) _ (by omega) (by omega)).mono ?_
 rintro e w' ⟨rfl,rfl⟩
 rw[Int.toNat_natCast,Hb.out]
 go_wp2
 go_ret
 exact⟨fq_ (by rw[←Hz.out]),rfl⟩
theorem ph_(a:OA_)(n cap k s:Nat)(l:List Nat)(w:World)(h:Wd w a n cap l)(hk:k≤1048576000000)(hs:s≤31)(hv:Hid (val l < 2 ^ (32 * (k+3) - s))) :
 Calls Tryz.prog 164 #[.slice a n cap,.int .i64 ((k+3:Nat):Int),.int .i64 (s:Int)] w fun e w'=>e=.returned (.int .u64 ((val l / 2 ^ (32 * k+(32 - s)):Nat):Int))∧∃q,w'=w.drewN q:=by
 obtain⟨t1,t2,t3⟩:=head_word h.ok hs hv.out
 have hx0:=b0_ h.ok k
 have hx1:=b0_ h.ok (k+1)
 have hx2:=b0_ h.ok (k+2)
 have Hw:=hd_ h
 obtain⟨p1,e1⟩:∃p1:Nat,((k+3:Nat):Int) - 1=(p1:Int):=⟨k+2,by omega⟩
 obtain⟨p2,e2⟩:∃p2:Nat,((k+3:Nat):Int) - 2=(p2:Int):=⟨k+1,by omega⟩
 obtain⟨p3,e3⟩:∃p3:Nat,((k+3:Nat):Int) - 3=(p3:Int):=⟨k,by omega⟩
 obtain rfl:p3=k:=by omega
 have f1:p1=p3+2:=by omega
 have f2:p2=p3+1:=by omega
 have hp1:p1≤9223372036854775807:=by omega
 have hp2:p2≤9223372036854775807:=by omega
 have hp3:p3≤9223372036854775807:=by omega
 rw[←f1,←f2] at t1 t3
 rw[←f1] at hx2
 rw[←f2] at hx1
 obtain⟨n3,hn3⟩:∃n3:Nat,n3=p3+3:=⟨_,rfl⟩
 rw[←hn3] at e1 e2 e3 ⊢
 have hn3b:n3≤1048576000003:=by omega
 clear f1 f2 h hv hn3 hk
 obtain⟨x0,y0⟩:∃x,x=atw l p3:=⟨_,rfl⟩
 obtain⟨x1,y1⟩:∃x,x=atw l p2:=⟨_,rfl⟩
 obtain⟨x2,y2⟩:∃x,x=atw l p1:=⟨_,rfl⟩
 rw[←y0] at hx0 t2 t3
 rw[←y1] at hx1 t1 t3
 rw[←y2] at hx2 t1 t3
 have Y0:=hd_ y0
 have Y1:=hd_ y1
 have Y2:=hd_ y2
 clear y0 y1 y2
 have o1:bits .or .u64 ((x2:Int) * 4294967296) (x1:Int)=(x2:Int) * 4294967296+(x1:Int):=i7_ (by omega) (by omega) (by omega) (by omega)
 obtain⟨hi,hhi⟩:∃hi:Nat,(x2:Int) * 4294967296+(x1:Int)=(hi:Int):=⟨x2 * 4294967296+x1,by omega⟩
 rw[hhi] at o1
 have f3:x2 * 4294967296+x1=hi:=by omega
 rw[f3] at t1 t3
 have hhb:hi < 18446744073709551616:=by omega
 obtain⟨r,hr⟩:∃r:Nat,(32:Int) - (s:Int)=(r:Int):=⟨32 - s,by omega⟩
 have hre:32 - s=r:=by omega
 rw[hre] at t2 t3 ⊢
 have hrb:r≤32:=by omega
 obtain⟨z,hz⟩:∃z:Nat,(x0:Int) / 2 ^ r=(z:Int):=⟨x0 / 2 ^ r,fm_ x0 r⟩
 have hze:x0 / 2 ^ r=z:=by have:=fm_ x0 r;omega
 rw[hze] at t2 t3
 have hzb:z < 4294967296:=by rw[←hze];exact ln_ hx0 r
 have t4:hi * 2 ^ s < 18446744073709551616:=by
  have h1:hi * 2 ^ s < 2 ^ (64 - s) * 2 ^ s:=Nat.mul_lt_mul_of_pos_right t1 (Nat.two_pow_pos s)
  rw[←Nat.pow_add,show 64 - s+s=64 by omega] at h1
  exact h1
 have o2:=or_high t4 t2 (by omega)
 rw[t3] at o2
 have t5:(hi:Int) * 2 ^ s=((hi * 2 ^ s:Nat):Int):=gw_ hi s
 obtain⟨g,hg⟩:∃g,g=hi * 2 ^ s:=⟨_,rfl⟩
 rw[←hg] at t4 t5 o2
 have t6:(hi:Int) * 2 ^ s % 18446744073709551616=(g:Int):=by rw[t5];omega
 obtain⟨v,hv⟩:∃v,v=val l / 2 ^ (32 * p3+r):=⟨_,rfl⟩
 rw[←hv] at o2 ⊢
 clear hv hg t3 hze hre f3 t1 t2
 go_enter Tryz.func164,Tryz.ntmps164
 go_wp2_with fail
 refine (g2_ _ _ _ p1 x2 _ _ Hw.out hp1 Y2).mono ?_
 rintro e w' ⟨rfl,rfl⟩
 go_wp2_with fail
 refine (g2_ _ _ _ p2 x1 _ _ Hw.out hp2 Y1).mono ?_
 rintro e w' ⟨rfl,rfl⟩
 go_wp2
 go_quiet ((go_at_call 171;exact gp_ (g2_ _ _ _ p3 x0 _ _ (Hw.out.later (ee_ _ _)) hp3 Y0) ⟨_,rfl⟩))
 go_wp2
 go_ret
 exact⟨rfl,_,rfl⟩
theorem b7_{w:World}{A:Nat}{x y:Value}{t:TypeId}(h1:w.heap[A]? = some (.cells #[x,y] t (0,0))):w.cell? ⟨A,0,none⟩=some x∧w.cell? ⟨A,1,none⟩=some y:=⟨ad_ h1 0,ad_ h1 1⟩
theorem q0_(A B x z:Nat):val (dg (A * x+0)) - val (dg (B * z+0))+(val (dg (B * z+0)) - val (dg (A * x+0)))=ed_ A B x z:=by
 rw[a8_,a8_,Nat.add_zero,Nat.add_zero,Nat.mul_comm A,Nat.mul_comm B];rfl
theorem gu_{x:Nat}(h:x < 4294967296):(dg x).length≤1:=bh_ (by simpa using h)
theorem fb_{P:Program}{fn:Func}{p q:Tmp}{ty:TypeId}(h:fn.results=#[.cell p ty,.cell q ty])(tmps:Array Value)(w:World)(g g':Nat)(t:TypeId)(cs ds:Array Value)(fr:Nat × Nat)(d:TypeDesc)
 (hp:tmps.getD p undef=.pointer (some ⟨g,0,none⟩)) (hq:tmps.getD q undef=.pointer (some ⟨g',0,none⟩)) (hg:w.heap[g]? = some (.cells cs t fr)) (hg':w.heap[g']? = some (.cells ds t fr))
 (hu:P.underlying ty=some d) (hd:(match d with | .struct _ | .array _ _=>true | _=>false)=true) (hi:(P.info? ty).map (·.size)=some cs.size) (hi':(P.info? ty).map (·.size)=some ds.size) :
 (results fn tmps).run P w=.ok (.tuple #[.agg cs,.agg ds]) w:=by
 have hp':tmps[p]?.getD undef=.pointer (some ⟨g,0,none⟩):=by simpa using hp
 have hq':tmps[q]?.getD undef=.pointer (some ⟨g',0,none⟩):=by simpa using hq
 simp[results,h,hp',hq',asAddr,run_loadVar_row w g t ty cs fr d hg hu hd hi,run_loadVar_row w g' t ty ds fr d hg' hu hd hi',Sem.run_bind,Result.andThen]
def cntV (x z:Nat):Value:=.agg #[.int .u64 (x:Int),.int .u64 (z:Int)]
theorem m8_(x z:Nat)(a:OA_)(n cap:Nat)(la:List Nat)(b:OA_)(m cap':Nat)(lb:List Nat)(w:World)(ha:Wd w a n cap la)(hb:Wd w b m cap' lb)(hn:n≤104857600000)(hm:m≤104857600000)(hx:x < 4294967296)(hz:z < 4294967296) :
 Calls Tryz.prog 165 #[cntV x z,.slice a n cap,.slice b m cap'] w (Lst (dg (ed_ (val la) (val lb) x z)) w):=by
 have hB0:Below w.heap.size w (w.alloc (.cells #[.int .u64 (x:Int),.int .u64 (z:Int)] 163)):=aa_ _ _
 have Ha:=ha.l_ hB0
 have Hb:=hb.l_ hB0
 have HB:=hd_ hB0
 have hN:=ao_ w #[.int .u64 (x:Int),.int .u64 (z:Int)] 163
 have Hl1:Hid ((dg (val la * x+0)).length≤104857600001):=hd_ (by
  have h1:=b4_ (val la) x
  have h2:=ha.trim_le
  have h3:=gu_ hx
  rw[Nat.add_zero];omega)
 have Hl2:Hid ((dg (val lb * z+0)).length≤104857600001):=hd_ (by
  have h1:=b4_ (val lb) z
  have h2:=hb.trim_le
  have h3:=gu_ hz
  rw[Nat.add_zero];omega)
 have HX:=hd_ hx
 have HZ:=hd_ hz
 have HWx:Hid (IntKind.u32.wrap (x:Int)=(x:Int)):=hd_ (by rw[ob_];omega)
 have HWz:Hid (IntKind.u32.wrap (z:Int)=(z:Int)):=hd_ (by rw[ob_];omega)
 clear ha hb hB0
 go_enter Tryz.func165,Tryz.ntmps165
 unfold cntV
 go_wp2
 generalize w.alloc (.cells #[.int .u64 (x:Int),.int .u64 (z:Int)] 163)=W at *
 have hNd:W.drew.heap[w.heap.size]? = some (.cells #[.int .u64 (x:Int),.int .u64 (z:Int)] 163 (0,0)):=hN
 have Hd:Below W.heap.size W W.drew:=(Below.refl _ _).drew
 have HN:=hd_ hNd
 have Sd:=b7_ hNd
 clear hN hNd
 go_region_held3 (fun w'=>w'.cell? ⟨w.heap.size,0,none⟩=some (.int .u64 (x:Int))∧w'.cell? ⟨w.heap.size,1,none⟩=some (.int .u64 (z:Int))) (first | exact Sd | exact S1 | exact S2 | exact S3)
  (first
  | (go_at_call 172;(first
    | (have S0:=S1;rw[HWz.out];(refine (n3_ b m cap' lb z 0 _ ((Hb.out.later Hd).later b1) ?q3 HZ.out ?q4).mono ?_);(case q3=>omega);(case q4=>omega);rintro e w2 ⟨a2,n2,c2,rfl,h2,b2⟩;have S2:=b7_ (ag_ (ag_ HN.out b1) b2))
    | (rw[HWx.out];(refine (n3_ a n cap la x 0 _ (Ha.out.later Hd) ?q1 HX.out ?q2).mono ?_);(case q1=>omega);(case q2=>omega);rintro e w1 ⟨a1,n1,c1,rfl,h1,b1⟩;have S1:=b7_ (ag_ HN.out b1))))
  | (go_at_call 131;(refine (natSaid.gap a1 n1 c1 _ a2 n2 c2 _ _ (h1.later b2) h2 ?q5 ?q6).mono ?_);(case q5=>have:=h1.len;have:=Hl1.out;omega);(case q6=>have:=h2.len;have:=Hl2.out;omega);rintro e w3 ⟨a3,n3,c3,rfl,h3,b3⟩;have S3:=b7_ (ag_ (ag_ (ag_ HN.out b1) b2) b3)))
 go_wp2
 go_ret
 rw[q0_] at h3
 exact⟨a3,n3,c3,rfl,h3,ab_ HB.out (ab_ Hd (ab_ b1 (ab_ b2 b3)))⟩
def iz_ (w:World) (g xa xb ya yb na nb:Nat):Prop:=
 w.heap[g]? = some (.cells #[.int .u64 (xa:Int),.int .u64 (xb:Int)] 163 (0,0))∧w.heap[g+1]? = some (.cells #[.int .u64 (ya:Int),.int .u64 (yb:Int)] 163 (0,0))∧w.heap[g+1+1]? = some (.cells #[.int .u64 (na:Int),.int .u64 (nb:Int)] 163 (0,0))
theorem op_(w:World)(xa xb ya yb na nb:Nat):iz_ (((w.alloc (.cells #[.int .u64 (xa:Int),.int .u64 (xb:Int)] 163)).alloc (.cells #[.int .u64 (ya:Int),.int .u64 (yb:Int)] 163)).alloc (.cells #[.int .u64 (na:Int),.int .u64 (nb:Int)] 163)) w.heap.size xa xb ya yb na nb:=by
 obtain⟨h1,h2⟩:=d0_ w (((w.alloc (.cells #[.int .u64 (xa:Int),.int .u64 (xb:Int)] 163)).alloc (.cells #[.int .u64 (ya:Int),.int .u64 (yb:Int)] 163)).alloc (.cells #[.int .u64 (na:Int),.int .u64 (nb:Int)] 163)) _ _ _ _ (aa_ _ _)
 refine ⟨h1,h2,?_⟩
 have h3:=ao_ ((w.alloc (.cells #[.int .u64 (xa:Int),.int .u64 (xb:Int)] 163)).alloc (.cells #[.int .u64 (ya:Int),.int .u64 (yb:Int)] 163)) #[.int .u64 (na:Int),.int .u64 (nb:Int)] 163
 rw[aw_,aw_] at h3
 exact h3
theorem e7_{w:World}{A g:Nat}{o:Obj}(h:w.heap[A]? = some o)(hne:A≠g)(u v:Value):((w.setCell ⟨g,0,none⟩ u).setCell ⟨g,1,none⟩ v).heap[A]? = some o:=
 (Below.heap_setCell (w.setCell ⟨g,0,none⟩ u) ⟨g,1,none⟩ v A hne).trans ((Below.heap_setCell w ⟨g,0,none⟩ u A hne).trans h)
theorem h6_{w:World}{g xa xb ya yb na nb:Nat}(h:iz_ w g xa xb ya yb na nb)(x y z u:Nat) :
 iz_ ((((w.setCell ⟨g,0,none⟩ (.int .u64 (x:Int))).setCell ⟨g,1,none⟩ (.int .u64 (y:Int))).setCell ⟨g+1,0,none⟩ (.int .u64 (z:Int))).setCell ⟨g+1,1,none⟩ (.int .u64 (u:Int))) g x y z u na nb:=by
 have h1:=bk_ h.1 (.int .u64 (x:Int)) (.int .u64 (y:Int))
 have h2:=e7_ h.2.1 (show g+1≠g by omega) (.int .u64 (x:Int)) (.int .u64 (y:Int))
 have h3:=e7_ h.2.2 (show g+1+1≠g by omega) (.int .u64 (x:Int)) (.int .u64 (y:Int))
 exact⟨e7_ h1 (show g≠g+1 by omega) _ _,bk_ h2 _ _,e7_ h3 (show g+1+1≠g+1 by omega) _ _⟩
theorem q6_{w:World}{g xa xb ya yb na nb:Nat}(h:iz_ w g xa xb ya yb na nb)(x y z u v t:Nat) :
 iz_ ((((((w.setCell ⟨g,0,none⟩ (.int .u64 (x:Int))).setCell ⟨g,1,none⟩ (.int .u64 (y:Int))).setCell ⟨g+1,0,none⟩ (.int .u64 (z:Int))).setCell ⟨g+1,1,none⟩ (.int .u64 (u:Int))).setCell ⟨g+1+1,0,none⟩ (.int .u64 (v:Int))).setCell ⟨g+1+1,1,none⟩ (.int .u64 (t:Int))) g x y z u v t:=by
 have h1:=h6_ h x y z u
 exact⟨e7_ h1.1 (show g≠g+1+1 by omega) _ _,e7_ h1.2.1 (show g+1≠g+1+1 by omega) _ _,bk_ h1.2.2 _ _⟩
theorem fd_{w:World}{g xa xb ya yb na nb:Nat}(h:iz_ w g xa xb ya yb na nb):iz_ w.drew g xa xb ya yb na nb:=h
def r0_ (A B:Nat) (w:World) (e:Ending) (w':World):Prop:=
 ∃xa xb ya yb:Nat,e=.returned (.tuple #[cntV xa xb,cntV ya yb])∧xa < 4294967296∧xb < 4294967296∧ya < 4294967296∧yb < 4294967296∧Hid (xb=0∨Good A B xa xb ya yb)∧Below w.heap.size w w'
theorem ml_(A B M p q:Nat)(w:World)(hM:Hid (0 < M))(hBA:Hid (B≤A))(hp:Hid (p=A / M))(hq:Hid (q=B / M))(hα:p < 18446744073709551616) :
 Calls Tryz.prog 163 #[.int .u64 (p:Int),.int .u64 (q:Int)] w (r0_ A B w):=by
 have HA:Hid (A / M < 18446744073709551616):=hd_ (by rw[←hp.out];exact hα)
 have hqp:q≤p:=by rw[hp.out,hq.out];exact Nat.div_le_div_right hBA.out
 have HS:Hid (Heads A B M p q 0 0 1 0 0 1):=hd_ (by rw[hp.out,hq.out];exact o1_ hBA.out)
 go_enter Tryz.func163,Tryz.ntmps163
 go_wp2
 go_loopw [0,1,7] (fun av bv qv wr=>∃a b xa xb ya yb na nb:Nat,av=.int .u64 (a:Int)∧bv=.int .u64 (b:Int)∧a < 18446744073709551616∧b≤a∧Hid (Heads A B M a b xa xb ya yb na nb)∧Hid (iz_ wr w.heap.size xa xb ya yb na nb)∧Hid (Below w.heap.size w wr)) (fun _ bv _ _=>(intOf bv).toNat)
 case atStart=>exact⟨p,q,0,0,1,0,0,1,rfl,rfl,hα,hqp,HS,hd_ (op_ w _ _ _ _ _ _),hd_ (ab_ (ab_ (aa_ _ _) (aa_ _ _)) (aa_ _ _))⟩
 case round=>
  obtain⟨a,b,xa,xb,ya,yb,na,nb,rfl,rfl,ha64,hba,HH,HX,HBw⟩:=hrel
  have hn64:=HH.out.wn
  have hy32:=HH.out.wy
  have hx32:=HH.out.wx
  have hpos:=HH.out.way.pos
  obtain⟨hn1,hn2⟩:=hn64
  obtain⟨hy1,hy2⟩:=hy32
  obtain⟨hx1,hx2⟩:=hx32
  obtain⟨c1,c2⟩:=b7_ HX.out.1
  obtain⟨c3,c4⟩:=b7_ HX.out.2.1
  obtain⟨c5,c6⟩:=b7_ HX.out.2.2
  by_cases hb:nb≤b
  ·have hs:=kt_ HH.out HA.out hb
   obtain⟨hs1,hs2⟩:=hs
   obtain⟨e,he⟩:∃e:Nat,(yb:Int)+(nb:Int)=(e:Int):=⟨yb+nb,by omega⟩
   obtain⟨d,hd⟩:∃d:Nat,(a:Int) - (b:Int)=(d:Int):=⟨a - b,by omega⟩
   have he64:e < 18446744073709551616:=by omega
   have hd64:d < 18446744073709551616:=by omega
   by_cases hab:e≤d
   ·have hb0:(0:Int) < (b:Int):=by omega
    have Hstep:=hd_ (rf_ hM.out HH.out HA.out hb (by omega))
    obtain⟨r1,r2,r3,r4⟩:=k4_ HH.out HA.out hb
    have hr:a % b < b:=Nat.mod_lt _ (by omega)
    obtain⟨q,hq⟩:∃q:Nat,(a:Int) / (b:Int)=(q:Int):=⟨a / b,by rw[Int.natCast_ediv]⟩
    obtain⟨r,hrr⟩:∃r:Nat,(a:Int) % (b:Int)=(r:Int):=⟨a % b,by rw[Int.natCast_emod]⟩
    have hqe:a / b=q:=by have:=Int.natCast_ediv a b;omega
    have hre:a % b=r:=by have:=Int.natCast_emod a b;omega
    rw[hqe] at r1 r2 r3 r4 Hstep
    rw[hre] at hr Hstep
    have hq64:q≤a:=by rw[←hqe];exact Nat.div_le_self _ _
    obtain⟨m1,hm1⟩:∃m1:Nat,(q:Int) * (na:Int)=(m1:Int):=⟨q * na,by rw[Int.natCast_mul]⟩
    obtain⟨m2,hm2⟩:∃m2:Nat,(q:Int) * (nb:Int)=(m2:Int):=⟨q * nb,by rw[Int.natCast_mul]⟩
    have hm1e:q * na=m1:=by have:=Int.natCast_mul q na;omega
    have hm2e:q * nb=m2:=by have:=Int.natCast_mul q nb;omega
    rw[hm1e] at r1 r3 Hstep
    rw[hm2e] at r2 r4 Hstep
    clear hqe hre hm1e hm2e
    go_wp2
    go_quiet (fail)
    have HXd:Hid (iz_ (wr.drewN nq) w.heap.size xa xb ya yb na nb):=hd_ HX.out
    have HBd:Hid (Below w.heap.size w (wr.drewN nq)):=hd_ (below_drewN HBw.out nq)
    rw[hrr]
    clear HX HBw c1 c2 c3 c4 c5 c6 hrr
    generalize wr.drewN nq=wq at *
    have HXq:iz_ wq w.heap.size xa xb ya yb na nb:=HXd.out
    obtain⟨c1,c2⟩:=b7_ HXq.1
    obtain⟨c3,c4⟩:=b7_ HXq.2.1
    obtain⟨c5,c6⟩:=b7_ HXq.2.2
    have f1:=ah_ HXq.1 0
    have f2:=ah_ HXq.1 1
    have f3:=ah_ HXq.2.1 0
    have f4:=ah_ HXq.2.1 1
    have f5:=ah_ HXq.2.2 0
    have f6:=ah_ HXq.2.2 1
    clear HXq
    obtain⟨ka,hka⟩:∃ka:Nat,(ya:Int)+(m1:Int)=(ka:Int):=⟨ya+m1,by omega⟩
    obtain⟨kb,hkb⟩:∃kb:Nat,(yb:Int)+(m2:Int)=(kb:Int):=⟨yb+m2,by omega⟩
    have hkae:ya+m1=ka:=by omega
    have hkbe:yb+m2=kb:=by omega
    rw[hkae] at r3 Hstep
    rw[hkbe] at r4 Hstep
    have hb64:b < 18446744073709551616:=by omega
    clear hkae hkbe hb hba hab hs1 hs2 he hd he64 hd64
    go_wp2
    go_region
    have HXn:=hd_ (q6_ HXd.out ya yb na nb ka kb)
    have HBn:=hd_ (ay_ (ay_ (ay_ HBd.out (Nat.le_refl _) (.int .u64 (ya:Int)) (.int .u64 (yb:Int))) (show w.heap.size≤w.heap.size+1 by omega) (.int .u64 (na:Int)) (.int .u64 (nb:Int))) (show w.heap.size≤w.heap.size+1+1 by omega) (.int .u64 (ka:Int)) (.int .u64 (kb:Int)))
    clear c1 c2 c3 c4 c5 c6 f1 f2 f3 f4 f5 f6
    go_wp2
    go_roundw
    case rel=>exact⟨b,r,ya,yb,na,nb,ka,kb,rfl,rfl,hb64,by omega,Hstep,hd_ (fd_ HXn.out),hd_ HBn.out.drew⟩
    case measure=>simp[intOf];omega
   ·clear c1 c2 c3 c4 c5 c6
    have HXq:iz_ wr w.heap.size xa xb ya yb na nb:=HX.out
    have f1:=ah_ HXq.1 0
    have f2:=ah_ HXq.1 1
    have f3:=ah_ HXq.2.1 0
    have f4:=ah_ HXq.2.1 1
    obtain⟨c1,c2⟩:=b7_ HXq.1
    obtain⟨c3,c4⟩:=b7_ HXq.2.1
    obtain⟨c5,c6⟩:=b7_ HXq.2.2
    have HE:=hd_ (h6_ HXq xa xb ya yb)
    have HBe:=hd_ (ay_ (ay_ HBw.out (Nat.le_refl _) (.int .u64 (xa:Int)) (.int .u64 (xb:Int))) (show w.heap.size≤w.heap.size+1 by omega) (.int .u64 (ya:Int)) (.int .u64 (yb:Int)))
    have HG:Hid (xb=0∨Good A B xa xb ya yb):=hd_ (HH.out.here.imp (fun h=>h.1) id)
    clear HXq HX HBw
    go_wp2
    go_region
    go_wp2
    refine bodyPost_ret (fb_ Tryz.results163 _ _ w.heap.size (w.heap.size+1) 163 #[.int .u64 (xa:Int),.int .u64 (xb:Int)] #[.int .u64 (ya:Int),.int .u64 (yb:Int)] (0,0) _ rfl rfl (fd_ HE.out).1 (fd_ HE.out).2.1 Tryz.underlying163 rfl (by kernel_rfl) (by kernel_rfl)) rfl ?_
    exact⟨xa,xb,ya,yb,rfl,hx1,hx2,hy1,hy2,HG,HBe.out.drew⟩
  ·clear c1 c2 c3 c4 c5 c6
   have HXq:iz_ wr w.heap.size xa xb ya yb na nb:=HX.out
   have f1:=ah_ HXq.1 0
   have f2:=ah_ HXq.1 1
   have f3:=ah_ HXq.2.1 0
   have f4:=ah_ HXq.2.1 1
   obtain⟨c1,c2⟩:=b7_ HXq.1
   obtain⟨c3,c4⟩:=b7_ HXq.2.1
   obtain⟨c5,c6⟩:=b7_ HXq.2.2
   have HE:=hd_ (h6_ HXq xa xb ya yb)
   have HBe:=hd_ (ay_ (ay_ HBw.out (Nat.le_refl _) (.int .u64 (xa:Int)) (.int .u64 (xb:Int))) (show w.heap.size≤w.heap.size+1 by omega) (.int .u64 (ya:Int)) (.int .u64 (yb:Int)))
   have HG:Hid (xb=0∨Good A B xa xb ya yb):=hd_ (HH.out.here.imp (fun h=>h.1) id)
   clear HXq HX HBw
   go_wp2
   go_region
   go_wp2
   refine bodyPost_ret (fb_ Tryz.results163 _ _ w.heap.size (w.heap.size+1) 163 #[.int .u64 (xa:Int),.int .u64 (xb:Int)] #[.int .u64 (ya:Int),.int .u64 (yb:Int)] (0,0) _ rfl rfl (fd_ HE.out).1 (fd_ HE.out).2.1 Tryz.underlying163 rfl (by kernel_rfl) (by kernel_rfl)) rfl ?_
   exact⟨xa,xb,ya,yb,rfl,hx1,hx2,hy1,hy2,HG,HBe.out.drew⟩
def ru_ (X Y:Nat) (w:World) (e:Ending) (w':World):Prop:=
 ∃(a:OA_) (n cap:Nat) (b:OA_) (m cap':Nat) (X' Y':Nat),e=.returned (.tuple #[.slice a n cap,.slice b m cap'])∧Wd w' a n cap (dg X')∧Wd w' b m cap' (dg Y')∧Hid (X'≤Y∧Y' < Y∧Y'≤X'∧Nat.gcd X' Y'=Nat.gcd X Y)∧Below w.heap.size w w'
theorem lehmer_of{X Y xa xb ya yb:Nat}(hxb:xb≠0)(h:Good X Y xa xb ya yb):ed_ X Y xa xb≤Y∧ed_ X Y ya yb < Y∧ed_ X Y ya yb≤ed_ X Y xa xb∧Nat.gcd (ed_ X Y xa xb) (ed_ X Y ya yb)=Nat.gcd X Y:=by
 have h1:=h.first
 have h2:=h.lt
 rcases h1 with h1 | h1
 ·exact absurd h1 hxb
 ·exact⟨h1,by omega,by omega,h.gcd⟩
theorem box_pair(w:World)(x y z u:Value)(t:TypeId) :
 ((w.alloc (.cells #[x,y] t)).alloc (.cells #[z,u] t)).heap[w.heap.size]? = some (.cells #[x,y] t (0,0))∧((w.alloc (.cells #[x,y] t)).alloc (.cells #[z,u] t)).heap[w.heap.size+1]? = some (.cells #[z,u] t (0,0)):=by
 refine ⟨ag_ (ao_ w #[x,y] t) (aa_ _ _),?_⟩
 have h2:=ao_ (w.alloc (.cells #[x,y] t)) #[z,u] t
 rw[aw_] at h2
 exact h2
theorem ol_{w:World}{A B:Nat}{x y z u:Value}{t:TypeId}(h1:w.heap[A]? = some (.cells #[x,y] t (0,0)))(h2:w.heap[B]? = some (.cells #[z,u] t (0,0))) :
 w.cell? ⟨A,0,none⟩=some x∧w.cell? ⟨A,1,none⟩=some y∧w.cell? ⟨B,0,none⟩=some z∧w.cell? ⟨B,1,none⟩=some u:=⟨ad_ h1 0,ad_ h1 1,ad_ h2 0,ad_ h2 1⟩
theorem gt_(a:OA_)(n cap k s n3 p:Nat)(l:List Nat)(w:World)(h:Wd w a n cap l)(hn:Hid (n3=k+3))(hp:Hid (p=val l / 2 ^ (32 * k+(32 - s))))(hk:k≤1048576000000)(hs:s≤31)(hv:Hid (val l < 2 ^ (32 * (k+3) - s))) :
 Calls Tryz.prog 164 #[.slice a n cap,.int .i64 (n3:Int),.int .i64 (s:Int)] w fun e w'=>e=.returned (.int .u64 (p:Int))∧∃q,w'=w.drewN q:=by
 rw[hn.out,hp.out]
 exact ph_ a n cap k s l w h hk hs hv
theorem hi_(a:OA_)(k cap:Nat)(b:OA_)(m cap':Nat)(X Y:Nat)(w:World)(ha:Wd w a (k+3) cap (dg X))(hb:Wd w b m cap' (dg Y))(hk:k≤94371840000)(hm:m≤94371840000)(hYX:Hid (Y≤X))(hY:Hid (Y≠0)) :
 Calls Tryz.prog 152 #[.slice a (k+3) cap,.slice b m cap'] w (ru_ X Y w):=by
 obtain⟨hb1,hb2⟩:=ha.bound
 obtain⟨n3,hn3⟩:∃n3:Nat,n3=k+3:=⟨_,rfl⟩
 have Hn3:=hd_ hn3
 obtain⟨p1,e1⟩:∃p1:Nat,(n3:Int) - 1=(p1:Int):=⟨k+2,by omega⟩
 have hp1:p1=n3 - 1:=by omega
 have hp1n:p1 < n3:=by omega
 have h0:atw (dg X) (n3 - 1)≠0:=by
  have h1:=qf_ (l:=dg X) (cx_ X)
  rw[a8_,ha.len,←hn3] at h1
  rcases h1 with h1 | h1
  ·omega
  ·exact h1
 have hroom:=head_room (l:=dg X) (n:=n3) (cx_ X) (by rw[ha.len,hn3]) (by omega) h0
 rw[←hp1] at h0 hroom
 have hxw:=b0_ (cx_ X) p1
 rw[←hn3] at ha hb1 ⊢
 obtain⟨ba,oa,rfl,hca⟩:=ha.at (by omega)
 have hck:=hca p1 hp1n
 obtain⟨x,hx⟩:∃x,x=atw (dg X) p1:=⟨_,rfl⟩
 rw[←hx] at h0 hroom hxw hck
 have hbl:blen x≤32:=blen_le.2 (by omega)
 have hbl1:0 < blen x:=ja_ h0
 obtain⟨s,hs⟩:∃s,s=32 - blen x:=⟨_,rfl⟩
 have Hs:=hd_ hs
 have hs31:s≤31:=by omega
 rw[←hs,hn3,a8_] at hroom
 have HrA:Hid (val (dg X) < 2 ^ (32 * (k+3) - s)):=hd_ (by rw[a8_];exact hroom)
 have HrB:Hid (val (dg Y) < 2 ^ (32 * (k+3) - s)):=hd_ (by rw[a8_];exact Nat.lt_of_le_of_lt hYX.out hroom)
 have Hp:Hid (X / 2 ^ (32 * k+(32 - s)) < 18446744073709551616):=hd_ (by
  rw[Nat.div_lt_iff_lt_mul (Nat.two_pow_pos _),show (18446744073709551616:Nat)=2 ^ 64 by decide,←Nat.pow_add,show 64+(32 * k+(32 - s))=32 * (k+3) - s by omega]
  exact hroom)
 have Ha:=hd_ ha
 have Hb:=hd_ hb
 have HvX:Hid (val (dg X)=X):=hd_ (a8_ X)
 have HvY:Hid (val (dg Y)=Y):=hd_ (a8_ Y)
 have hn3b:n3≤94371840003:=by omega
 obtain⟨M,hM⟩:∃M,M=2 ^ (32 * k+(32 - s)):=⟨_,rfl⟩
 obtain⟨p,hp⟩:∃p,p=X / M:=⟨_,rfl⟩
 obtain⟨q,hq⟩:∃q,q=Y / M:=⟨_,rfl⟩
 have HPM:=hd_ hp
 have HQM:=hd_ hq
 have HP:Hid (p=val (dg X) / 2 ^ (32 * k+(32 - s))):=hd_ (by rw[a8_,←hM];exact hp)
 have HQ:Hid (q=val (dg Y) / 2 ^ (32 * k+(32 - s))):=hd_ (by rw[a8_,←hM];exact hq)
 have HM:=hd_ hM
 have HM0:Hid (0 < M):=hd_ (by rw[hM];exact Nat.two_pow_pos _)
 have hp64:p < 18446744073709551616:=by rw[hp,hM];exact Hp.out
 clear Hp hp hq
 clear hca ha hb hroom hbl hbl1 hs hp1 hx h0 hM hn3
 go_enter Tryz.func152,Tryz.ntmps152
 go_wp2_with fail
 refine (bits_lz32 x _ hxw).mono ?_
 rintro e w' ⟨rfl,rfl⟩
 rw[←Hs.out]
 go_wp2_with fail
 refine (gt_ _ _ _ k s n3 p (dg X) _ Ha.out Hn3 HP (by omega) hs31 HrA).mono ?_
 rintro e w1 ⟨rfl,q1,rfl⟩
 go_wp2_with fail
 refine (gt_ _ _ _ k s n3 q (dg Y) _ (Hb.out.later (ee_ _ _)) Hn3 HQ (by omega) hs31 HrB).mono ?_
 rintro e w1 ⟨rfl,q2,rfl⟩
 go_wp2_with fail
 refine (ml_ X Y M p q _ HM0 hYX HPM HQM hp64).mono ?_
 rintro e w2 ⟨xa,xb,ya,yb,rfl,hxa,hxb,hya,hyb,HG,hB2⟩
 have hB2':Below w.heap.size w w2:=ab_ (ee_ w (q1+q2)) hB2
 have hBW:=ab_ hB2' (ab_ (aa_ w2 (.cells #[.int .u64 (xa:Int),.int .u64 (xb:Int)] 163)) (aa_ _ (.cells #[.int .u64 (ya:Int),.int .u64 (yb:Int)] 163)))
 have HA2:=Ha.l_ hBW
 have HC2:=Hb.l_ hBW
 have HB2:=hd_ hBW
 obtain⟨hN1,hN2⟩:=box_pair w2 (.int .u64 (xa:Int)) (.int .u64 (xb:Int)) (.int .u64 (ya:Int)) (.int .u64 (yb:Int)) 163
 clear hB2 hB2' hBW Ha Hb HrA HrB HP HQ HPM HQM HM HM0 hck e1 hp1n hxw Hs
 unfold cntV
 by_cases h0:xb=0
 ·have hx0:((xb:Int) == 0)=true:=by rw[h0];rfl
  clear hN1 hN2 h0 HG
  go_wp2_with fail
  refine (i5_ _ _ _ _ _ _ _ _ _ HA2.out HC2.out (by omega) (by omega) (by rw[HvY.out];exact hY)).mono ?_
  rintro e w3 ⟨a3,n4,c3,b3,m3,d3,rfl,h3,k3,hB3⟩
  rw[HvX.out,HvY.out] at k3
  have K3:=hd_ k3
  have C3:=HC2.l_ hB3
  clear h3 k3
  go_wp2
  go_ret2
  exact⟨b,m,cap',b3,m3,d3,Y,X % Y,rfl,C3.out,K3.out,hd_ ⟨Nat.le_refl _,(fs_ hY.out).2,Nat.le_of_lt (fs_ hY.out).2,(fs_ hY.out).1⟩,ab_ HB2.out hB3⟩
 ·have hx0:((xb:Int) == 0)=false:=by simp[h0]
  have HL:=hd_ (lehmer_of h0 (HG.out.resolve_left h0))
  clear h0 HG
  go_wp2
  generalize (w2.alloc (.cells #[.int .u64 (xa:Int),.int .u64 (xb:Int)] 163)).alloc (.cells #[.int .u64 (ya:Int),.int .u64 (yb:Int)] 163)=W at *
  generalize w2.heap.size=g at *
  have hNd1:W.drew.heap[g]? = some (.cells #[.int .u64 (xa:Int),.int .u64 (xb:Int)] 163 (0,0)):=hN1
  have hNd2:W.drew.heap[g+1]? = some (.cells #[.int .u64 (ya:Int),.int .u64 (yb:Int)] 163 (0,0)):=hN2
  have Hd:Below W.heap.size W W.drew:=(Below.refl _ _).drew
  have HN1:=hd_ hNd1
  have HN2:=hd_ hNd2
  have Sd:=ol_ hNd1 hNd2
  have hnb:n3≤104857600000:=by omega
  have hmb:m≤104857600000:=by omega
  clear hN1 hN2 hNd1 hNd2 hx0
  go_region_held3 (fun w'=>w'.cell? ⟨g,0,none⟩=some (.int .u64 (xa:Int))∧w'.cell? ⟨g,1,none⟩=some (.int .u64 (xb:Int))∧w'.cell? ⟨g+1,0,none⟩=some (.int .u64 (ya:Int))∧w'.cell? ⟨g+1,1,none⟩=some (.int .u64 (yb:Int))) (first | exact Sd | exact S1 | exact S2)
   (first
   | (go_at_call 165;(first
     | (have S0:=S1;(refine (m8_ ya yb _ n3 cap (dg X) b m cap' (dg Y) _ ((HA2.out.later Hd).later b1) ((HC2.out.later Hd).later b1) hnb hmb hya hyb).mono ?_);rintro e w4 ⟨a2,n2,c2,rfl,h2,b2⟩;have S2:=ol_ (ag_ (ag_ HN1.out b1) b2) (ag_ (ag_ HN2.out b1) b2))
     | ((refine (m8_ xa xb _ n3 cap (dg X) b m cap' (dg Y) _ (HA2.out.later Hd) (HC2.out.later Hd) hnb hmb hxa hxb).mono ?_);rintro e w3 ⟨a1,n1,c1,rfl,h1,b1⟩;have S1:=ol_ (ag_ HN1.out b1) (ag_ HN2.out b1)))))
  rw[HvX.out,HvY.out] at h1 h2
  have H1:=h1.l_ b2
  have H2:=hd_ h2
  clear h1 h2
  go_wp2
  go_ret2
  exact⟨_,_,_,_,_,_,_,_,rfl,H1.out,H2.out,HL,ab_ HB2.out (ab_ Hd (ab_ b1 b2))⟩
theorem Wd.held_any{w:World}{a:Option Addr}{n cap:Nat}{l:List Nat}(h:Wd w a n cap l):mt_ w (.slice a n cap)=val l:=by
 cases a with
 | none=>obtain⟨_,_,rfl⟩:=h.ofNone;rfl
 | some ad=>
   by_cases hn:n=0
   ·subst hn
    obtain rfl:=List.eq_nil_of_length_eq_zero h.len
    rfl
   ·obtain⟨b,off,e,_⟩:=h.at (by omega)
    simp only[Option.some.injEq] at e
    subst e
    exact h.held
theorem nt_{v m:Nat}(h:(dg v).length=m)(hm:m≤2):v < 18446744073709551616:=by
 have h1:=dg_length_pow.1 (show (dg v).length≤2 by omega)
 simpa using h1
theorem hh_{v:Nat}(h:v < 18446744073709551616):ik_ v=v∧lp_ v=true:=by
 unfold ik_ lp_ two64
 rw[if_pos h,decide_eq_true h]
 exact⟨rfl,rfl⟩
def nu_ (G bound:Nat) (w0:World) (x y:Value) (wr:World):Prop:=
 ∃(a:OA_) (n cap:Nat) (b:OA_) (m cap':Nat) (X Y:Nat),x=.slice a n cap∧y=.slice b m cap'∧Hid (Wd wr a n cap (dg X))∧Hid (Wd wr b m cap' (dg Y))∧n≤bound∧m≤bound∧Hid (Y≤X∧Nat.gcd X Y=G)∧Hid (Below w0.heap.size w0 wr)
theorem qz_(a:OA_)(n cap:Nat)(la:List Nat)(b:OA_)(m cap':Nat)(lb:List Nat)(w:World)(ha:Wd w a n cap la)(hb:Wd w b m cap' lb)(hn:n≤83886080000)(hm:m≤83886080000) :
 Calls Tryz.prog 127 #[.slice a n cap,.slice b m cap'] w (Lst (dg (Nat.gcd (val la) (val lb))) w):=by
 have hla:(dg (val la)).length≤n:=ha.trim_le
 have hlb:(dg (val lb)).length≤m:=hb.trim_le
 have Hb:=hd_ hb
 go_enter Tryz.func127,Tryz.ntmps127
 go_wp2_with fail
 refine (natSaid.norm _ _ _ _ _ ha (by omega)).mono ?_
 rintro e w1 ⟨ax,nx,cx,rfl,hx,hB1⟩
 have Hx:=hd_ hx
 have hnx:nx≤83886080000:=by have h1:=hx.len;omega
 have Hb1:=Hb.l_ hB1
 clear ha hb hx Hb
 go_wp2_with fail
 refine (natSaid.norm _ _ _ _ _ Hb1.out (by omega)).mono ?_
 rintro e w2 ⟨ay,ny,cy,rfl,hy,hB2⟩
 have Hy:=hd_ hy
 have hny:ny≤83886080000:=by have h1:=hy.len;omega
 have Hx2:=Hx.l_ hB2
 have hB12:=ab_ hB1 hB2
 clear hy hla hlb Hb1 Hx hB1 hB2
 generalize val la=X0 at *
 generalize val lb=Y0 at *
 have HvX:Hid (val (dg X0)=X0):=hd_ (a8_ X0)
 have HvY:Hid (val (dg Y0)=Y0):=hd_ (a8_ Y0)
 go_wp2_with fail
 refine (natSaid.cmp _ _ _ _ _ _ _ _ _ Hx2.out Hy.out (by omega) (by omega)).mono ?_
 rintro e w3 ⟨rfl,hB3⟩
 rw[HvX.out,HvY.out]
 have Hx3:=Hx2.l_ hB3
 have Hy3:=Hy.l_ hB3
 have HB3:=hd_ (ab_ hB12 hB3)
 clear Hx2 Hy hB12 hB3 HvX HvY
 obtain⟨G,hG⟩:∃G,G=Nat.gcd X0 Y0:=⟨_,rfl⟩
 have HGe:Hid (Nat.gcd X0 Y0=G):=hd_ hG.symm
 have HS:Hid ((X0 < Y0→X0≤Y0∧Nat.gcd Y0 X0=G)∧(¬X0 < Y0→Y0≤X0∧Nat.gcd X0 Y0=G)):=hd_ ⟨fun h=>⟨by omega,by rw[hG,Nat.gcd_comm]⟩,fun h=>⟨by omega,hG.symm⟩⟩
 clear hG
 by_cases hlt:X0 < Y0
 ·have hc:cmpI X0 Y0 < 0:=by rw[ig_ hlt];omega
  have HSs:=hd_ (HS.out.1 hlt)
  clear hlt HS
  generalize cmpI X0 Y0=c at *
  go_wp2
  go_loopw [0,1] (fun xv yv wr=>nu_ G 83886080000 w xv yv wr) (fun _ yv wr=>mt_ wr yv)
  case atStart=>exact⟨ay,ny,cy,ax,nx,cx,Y0,X0,rfl,rfl,Hy3,Hx3,hny,hnx,HSs,HB3⟩
  case round=>
   clear Hx3 Hy3 hnx hny HSs HB3 hc
   obtain⟨a,n,cap,b,m,cap',X,Y,rfl,rfl,HX,HY,hn,hm,HXY,HB⟩:=hrel
   have HvX:Hid (val (dg X)=X):=hd_ (a8_ X)
   have HvY:Hid (val (dg Y)=Y):=hd_ (a8_ Y)
   by_cases hm2:2 < m
   ·have HmY:=hd_ HY.out.held_any
    rw[HvY.out] at HmY
    have hmn:m≤n:=by rw[←HX.out.len,←HY.out.len];exact ax_ HXY.out.1
    obtain⟨k,rfl⟩:∃k,n=k+3:=⟨n - 3,by omega⟩
    have HY0:Hid (Y≠0):=hd_ (fun h=>by have:=HY.out.len;rw[h,co_] at this;simp at this;omega)
    have HYX:Hid (Y≤X):=hd_ HXY.out.1
    have hm2i:(2:Int) < (m:Int):=by omega
    go_wp2_with fail
    refine (hi_ a k cap b m cap' X Y _ HX.out HY.out (by omega) (by omega) HYX HY0).mono ?_
    rintro e w4 ⟨a4,n4,c4,b4,m4,d4,X4,Y4,rfl,h4,k4,HL,hB4⟩
    have H4:=hd_ h4
    have K4:=hd_ k4
    have hn4:n4≤83886080000:=by have h1:=h4.len;have h2:=ax_ HL.out.1;have h3:=HY.out.len;omega
    have hm4:m4≤83886080000:=by have h1:=k4.len;have h2:=ax_ (Nat.le_of_lt HL.out.2.1);have h3:=HY.out.len;omega
    have HB4:=hd_ (ab_ HB.out hB4)
    have HmK:=hd_ k4.held_any
    rw[a8_] at HmK
    clear h4 k4 hB4
    go_wp2
    go_roundw
    case rel=>exact⟨a4,n4,c4,b4,m4,d4,X4,Y4,rfl,rfl,H4,K4,hn4,hm4,hd_ ⟨HL.out.2.2.1,HL.out.2.2.2.trans HXY.out.2⟩,HB4⟩
    case measure=>rw[HmK.out,HmY.out];exact HL.out.2.1
   ·have hm2i:¬(2:Int) < (m:Int):=by omega
    by_cases hm0:m=0
    ·subst hm0
     have HGX:Hid (X=G):=hd_ (by rw[←HXY.out.2,dg_nil_iff.1 HY.out.len,Nat.gcd_zero_right])
     go_wp2
     go_ret
     exact⟨a,n,cap,rfl,by rw[HGe.out,←HGX.out];exact HX.out,HB.out⟩
    ·have hmb:((m:Int) == 0)=false:=by simp;omega
     have HY0:Hid (Y≠0):=hd_ (fun h=>by have:=HY.out.len;rw[h,co_] at this;simp at this;omega)
     have hYs:Y < 18446744073709551616:=nt_ HY.out.len (by omega)
     have hRs:X % Y < 18446744073709551616:=Nat.lt_trans (Nat.mod_lt _ (Nat.pos_of_ne_zero HY0.out)) hYs
     have HGY:Hid (Nat.gcd Y (X % Y)=G):=hd_ ((fs_ HY0.out).1.trans HXY.out.2)
     go_wp2_with fail
     refine (i5_ _ _ _ _ _ _ _ _ _ HX.out HY.out (by omega) (by omega) (by rw[HvY.out];exact HY0)).mono ?_
     rintro e w4 ⟨a4,n4,c4,b4,m4,d4,rfl,h4,k4,hB4⟩
     rw[HvX.out,HvY.out] at k4
     have K4:=hd_ k4
     have hm4:m4≤83886080000:=by have h1:=k4.len;have h2:=ax_ (Nat.le_of_lt (Nat.mod_lt X (Nat.pos_of_ne_zero HY0.out)));have h3:=HY.out.len;omega
     have HY4:=HY.l_ hB4
     have hB14:=ab_ HB.out hB4
     obtain⟨R,hR⟩:∃R,R=X % Y:=⟨_,rfl⟩
     rw[←hR] at hRs HGY K4
     have HvR:Hid (val (dg R)=R):=hd_ (a8_ R)
     have HsY:=hd_ (hh_ hYs)
     have HsR:=hd_ (hh_ hRs)
     clear h4 k4 hB4 hR HX HY HB HXY HY0
     go_wp2_with fail
     refine (natSaid.small _ _ _ _ _ HY4.out (by omega)).mono ?_
     rintro e w5 ⟨rfl,hB5⟩
     rw[HvY.out,HsY.out.1,HsY.out.2]
     have K5:=K4.l_ hB5
     have hB15:=ab_ hB14 hB5
     clear K4 HY4 hB14 hB5 HvX HvY HsY
     go_wp2_with fail
     refine (natSaid.small _ _ _ _ _ K5.out (by omega)).mono ?_
     rintro e w6 ⟨rfl,hB6⟩
     rw[HvR.out,HsR.out.1,HsR.out.2]
     have HB16:=hd_ (ab_ hB15 hB6)
     clear K5 hB15 hB6 HvR HsR
     go_wp2
     go_loopw [8,10] (fun xv yv wr=>∃x y:Nat,xv=.int .u64 (x:Int)∧yv=.int .u64 (y:Int)∧x < 18446744073709551616∧y < 18446744073709551616∧Hid (Nat.gcd x y=G)∧Hid (Below w.heap.size w wr)) (fun _ yv _=>(intOf yv).toNat)
     case atStart=>exact⟨Y,R,rfl,rfl,hYs,hRs,HGY,HB16⟩
     case round=>
      clear HGY HB16 hYs hRs
      obtain⟨x,y,rfl,rfl,hxs,hys,HG,HBr⟩:=hrel
      by_cases hy0:0 < y
      ·have hyi:(0:Int) < (y:Int):=by omega
       obtain⟨z,hz⟩:∃z:Nat,(x:Int) % (y:Int)=(z:Int):=⟨x % y,by rw[Int.natCast_emod]⟩
       have hze:x % y=z:=by have:=Int.natCast_emod x y;omega
       have Hz:=hd_ (fs_ (X:=x) (Y:=y) (by omega))
       rw[hze] at Hz
       have hzs:z < y:=Hz.out.2
       clear hze
       go_wp2
       go_quiet (fail)
       rw[hz]
       have HBd:=hd_ (below_drewN HBr.out nq)
       go_wp2
       go_roundw
       case rel=>exact⟨y,z,rfl,rfl,hys,by omega,hd_ (Hz.out.1.trans HG.out),HBd⟩
       case measure=>simp[intOf];omega
      ·obtain rfl:y=0:=by omega
       have HGx:Hid (x=G):=hd_ (by rw[←HG.out,Nat.gcd_zero_right])
       go_wp2_with fail
       refine (natSaid.of x _ (by omega)).mono ?_
       rintro e w7 ⟨a7,n7,c7,rfl,h7,hB7⟩
       rw[HGx.out] at h7
       have H7:=hd_ h7
       clear h7
       go_wp2
       go_ret
       exact⟨a7,n7,c7,rfl,by rw[HGe.out];exact H7.out,ab_ HBr.out hB7⟩
 ·have hc:¬cmpI X0 Y0 < 0:=by unfold cmpI;split <;> (try split) <;> omega
  have HSs:=hd_ (HS.out.2 hlt)
  clear hlt HS
  generalize cmpI X0 Y0=c at *
  go_wp2
  go_loopw [0,1] (fun xv yv wr=>nu_ G 83886080000 w xv yv wr) (fun _ yv wr=>mt_ wr yv)
  case atStart=>exact⟨ax,nx,cx,ay,ny,cy,X0,Y0,rfl,rfl,Hx3,Hy3,hnx,hny,HSs,HB3⟩
  case round=>
   clear Hx3 Hy3 hnx hny HSs HB3 hc
   obtain⟨a,n,cap,b,m,cap',X,Y,rfl,rfl,HX,HY,hn,hm,HXY,HB⟩:=hrel
   have HvX:Hid (val (dg X)=X):=hd_ (a8_ X)
   have HvY:Hid (val (dg Y)=Y):=hd_ (a8_ Y)
   by_cases hm2:2 < m
   ·have HmY:=hd_ HY.out.held_any
    rw[HvY.out] at HmY
    have hmn:m≤n:=by rw[←HX.out.len,←HY.out.len];exact ax_ HXY.out.1
    obtain⟨k,rfl⟩:∃k,n=k+3:=⟨n - 3,by omega⟩
    have HY0:Hid (Y≠0):=hd_ (fun h=>by have:=HY.out.len;rw[h,co_] at this;simp at this;omega)
    have HYX:Hid (Y≤X):=hd_ HXY.out.1
    have hm2i:(2:Int) < (m:Int):=by omega
    go_wp2_with fail
    refine (hi_ a k cap b m cap' X Y _ HX.out HY.out (by omega) (by omega) HYX HY0).mono ?_
    rintro e w4 ⟨a4,n4,c4,b4,m4,d4,X4,Y4,rfl,h4,k4,HL,hB4⟩
    have H4:=hd_ h4
    have K4:=hd_ k4
    have hn4:n4≤83886080000:=by have h1:=h4.len;have h2:=ax_ HL.out.1;have h3:=HY.out.len;omega
    have hm4:m4≤83886080000:=by have h1:=k4.len;have h2:=ax_ (Nat.le_of_lt HL.out.2.1);have h3:=HY.out.len;omega
    have HB4:=hd_ (ab_ HB.out hB4)
    have HmK:=hd_ k4.held_any
    rw[a8_] at HmK
    clear h4 k4 hB4
    go_wp2
    go_roundw
    case rel=>exact⟨a4,n4,c4,b4,m4,d4,X4,Y4,rfl,rfl,H4,K4,hn4,hm4,hd_ ⟨HL.out.2.2.1,HL.out.2.2.2.trans HXY.out.2⟩,HB4⟩
    case measure=>rw[HmK.out,HmY.out];exact HL.out.2.1
   ·have hm2i:¬(2:Int) < (m:Int):=by omega
    by_cases hm0:m=0
    ·subst hm0
     have HGX:Hid (X=G):=hd_ (by rw[←HXY.out.2,dg_nil_iff.1 HY.out.len,Nat.gcd_zero_right])
     go_wp2
     go_ret
     exact⟨a,n,cap,rfl,by rw[HGe.out,←HGX.out];exact HX.out,HB.out⟩
    ·have hmb:((m:Int) == 0)=false:=by simp;omega
     have HY0:Hid (Y≠0):=hd_ (fun h=>by have:=HY.out.len;rw[h,co_] at this;simp at this;omega)
     have hYs:Y < 18446744073709551616:=nt_ HY.out.len (by omega)
     have hRs:X % Y < 18446744073709551616:=Nat.lt_trans (Nat.mod_lt _ (Nat.pos_of_ne_zero HY0.out)) hYs
     have HGY:Hid (Nat.gcd Y (X % Y)=G):=hd_ ((fs_ HY0.out).1.trans HXY.out.2)
     go_wp2_with fail
     refine (i5_ _ _ _ _ _ _ _ _ _ HX.out HY.out (by omega) (by omega) (by rw[HvY.out];exact HY0)).mono ?_
     rintro e w4 ⟨a4,n4,c4,b4,m4,d4,rfl,h4,k4,hB4⟩
     rw[HvX.out,HvY.out] at k4
     have K4:=hd_ k4
     have hm4:m4≤83886080000:=by have h1:=k4.len;have h2:=ax_ (Nat.le_of_lt (Nat.mod_lt X (Nat.pos_of_ne_zero HY0.out)));have h3:=HY.out.len;omega
     have HY4:=HY.l_ hB4
     have hB14:=ab_ HB.out hB4
     obtain⟨R,hR⟩:∃R,R=X % Y:=⟨_,rfl⟩
     rw[←hR] at hRs HGY K4
     have HvR:Hid (val (dg R)=R):=hd_ (a8_ R)
     have HsY:=hd_ (hh_ hYs)
     have HsR:=hd_ (hh_ hRs)
     clear h4 k4 hB4 hR HX HY HB HXY HY0
     go_wp2_with fail
     refine (natSaid.small _ _ _ _ _ HY4.out (by omega)).mono ?_
     rintro e w5 ⟨rfl,hB5⟩
     rw[HvY.out,HsY.out.1,HsY.out.2]
     have K5:=K4.l_ hB5
     have hB15:=ab_ hB14 hB5
     clear K4 HY4 hB14 hB5 HvX HvY HsY
     go_wp2_with fail
     refine (natSaid.small _ _ _ _ _ K5.out (by omega)).mono ?_
     rintro e w6 ⟨rfl,hB6⟩
     rw[HvR.out,HsR.out.1,HsR.out.2]
     have HB16:=hd_ (ab_ hB15 hB6)
     clear K5 hB15 hB6 HvR HsR
     go_wp2
     go_loopw [8,10] (fun xv yv wr=>∃x y:Nat,xv=.int .u64 (x:Int)∧yv=.int .u64 (y:Int)∧x < 18446744073709551616∧y < 18446744073709551616∧Hid (Nat.gcd x y=G)∧Hid (Below w.heap.size w wr)) (fun _ yv _=>(intOf yv).toNat)
     case atStart=>exact⟨Y,R,rfl,rfl,hYs,hRs,HGY,HB16⟩
     case round=>
      clear HGY HB16 hYs hRs
      obtain⟨x,y,rfl,rfl,hxs,hys,HG,HBr⟩:=hrel
      by_cases hy0:0 < y
      ·have hyi:(0:Int) < (y:Int):=by omega
       obtain⟨z,hz⟩:∃z:Nat,(x:Int) % (y:Int)=(z:Int):=⟨x % y,by rw[Int.natCast_emod]⟩
       have hze:x % y=z:=by have:=Int.natCast_emod x y;omega
       have Hz:=hd_ (fs_ (X:=x) (Y:=y) (by omega))
       rw[hze] at Hz
       have hzs:z < y:=Hz.out.2
       clear hze
       go_wp2
       go_quiet (fail)
       rw[hz]
       have HBd:=hd_ (below_drewN HBr.out nq)
       go_wp2
       go_roundw
       case rel=>exact⟨y,z,rfl,rfl,hys,by omega,hd_ (Hz.out.1.trans HG.out),HBd⟩
       case measure=>simp[intOf];omega
      ·obtain rfl:y=0:=by omega
       have HGx:Hid (x=G):=hd_ (by rw[←HG.out,Nat.gcd_zero_right])
       go_wp2_with fail
       refine (natSaid.of x _ (by omega)).mono ?_
       rintro e w7 ⟨a7,n7,c7,rfl,h7,hB7⟩
       rw[HGx.out] at h7
       have H7:=hd_ h7
       clear h7
       go_wp2
       go_ret
       exact⟨a7,n7,c7,rfl,by rw[HGe.out];exact H7.out,ab_ HBr.out hB7⟩
theorem me_(x y:Nat):(dg (Nat.gcd x y)).length≤(dg x).length+(dg y).length:=by
 by_cases h:x=0
 ·rw[h,Nat.gcd_zero_left];omega
 ·have:=ax_ (Nat.le_of_dvd (Nat.pos_of_ne_zero h) (Nat.gcd_dvd_left x y));omega
theorem ib_{A B:Nat}:A % Nat.gcd A B=0:=Nat.mod_eq_zero_of_dvd (Nat.gcd_dvd_left A B)
theorem ho_{A B:Nat}:B % Nat.gcd A B=0:=Nat.mod_eq_zero_of_dvd (Nat.gcd_dvd_right A B)
theorem lq_{v x:Nat}(h:v % x=0):jo_ v x=dg (v / x):=if_pos h
theorem hc_(a:OA_)(n cap:Nat)(la:List Nat)(b:OA_)(m cap':Nat)(lb:List Nat)(w:World)(ha:Wd w a n cap la)(hb:Wd w b m cap' lb)(hn:n≤41943040000)(hm:m≤41943040000) :
 Calls Tryz.prog 87 #[.slice a n cap,.slice b m cap'] w (Pair2 (dg (val la / Nat.gcd (val la) (val lb))) (dg (val lb / Nat.gcd (val la) (val lb))) w):=by
 have hgl:=me_ (val la) (val lb)
 have hla:(dg (val la)).length≤n:=ha.trim_le
 have hlb:(dg (val lb)).length≤m:=hb.trim_le
 have Ha:=hd_ ha
 have Hb:=hd_ hb
 clear ha hb
 go_enter Tryz.func87,Tryz.ntmps87
 go_wp2_with fail
 refine (qz_ _ _ _ _ _ _ _ _ _ Ha.out Hb.out (by omega) (by omega)).mono ?_
 rintro e w1 ⟨a1,n1,c1,rfl,h1,hB1⟩
 have H1:=hd_ h1
 have hn1:n1≤83886080000:=by have:=h1.len;omega
 have Ha1:=Ha.l_ hB1
 have Hb1:=Hb.l_ hB1
 clear h1 Ha Hb
 by_cases h0:Nat.gcd (val la) (val lb)=0
 ·have HL:Hid (dg (val la / Nat.gcd (val la) (val lb))=[]∧dg (val lb / Nat.gcd (val la) (val lb))=[]):=hd_ (by rw[h0,Nat.div_zero,Nat.div_zero,co_];exact⟨rfl,rfl⟩)
  go_wp2_with fail
  refine (f5_ _ _ _ _ _ _ _ _ H1.out (by omega) (hd_ (by rw[a8_];exact h0))).mono ?_
  rintro e w2 ⟨a2,n2,c2,rfl,h2,hB2⟩
  have H2:=hd_ h2
  have H12:=H1.l_ hB2
  clear h2
  go_wp2_with fail
  refine (f5_ _ _ _ _ _ _ _ _ H12.out (by omega) (hd_ (by rw[a8_];exact h0))).mono ?_
  rintro e w3 ⟨a3,n3,c3,rfl,h3,hB3⟩
  have H3:=hd_ h3
  have H23:=H2.l_ hB3
  clear h3
  go_wp2
  go_ret2
  exact⟨a2,n2,c2,a3,n3,c3,rfl,by rw[HL.out.1];exact H23.out,by rw[HL.out.2];exact H3.out,ab_ hB1 (ab_ hB2 hB3)⟩
 ·have HL:Hid (jo_ (val la) (val (dg (Nat.gcd (val la) (val lb))))=dg (val la / Nat.gcd (val la) (val lb))):=hd_ (by rw[a8_];exact lq_ ib_)
  have HR:Hid (jo_ (val lb) (val (dg (Nat.gcd (val la) (val lb))))=dg (val lb / Nat.gcd (val la) (val lb))):=hd_ (by rw[a8_];exact lq_ ho_)
  go_wp2_with fail
  refine (ld_ _ _ _ _ _ _ _ _ _ Ha1.out H1.out (by omega) (by omega) (hd_ (by rw[a8_];exact h0))).mono ?_
  rintro e w2 ⟨a2,n2,c2,rfl,h2,hB2⟩
  rw[HL.out] at h2
  have H2:=hd_ h2
  have H12:=H1.l_ hB2
  have Hb2:=Hb1.l_ hB2
  clear h2
  go_wp2_with fail
  refine (ld_ _ _ _ _ _ _ _ _ _ Hb2.out H12.out (by omega) (by omega) (hd_ (by rw[a8_];exact h0))).mono ?_
  rintro e w3 ⟨a3,n3,c3,rfl,h3,hB3⟩
  rw[HR.out] at h3
  have H3:=hd_ h3
  have H23:=H2.l_ hB3
  clear h3
  go_wp2
  go_ret2
  exact⟨a2,n2,c2,a3,n3,c3,rfl,H23.out,H3.out,ab_ hB1 (ab_ hB2 hB3)⟩
theorem pi_(neg:Bool)(a:OA_)(n cap:Nat)(b:OA_)(m cap':Nat)(w:World) :
 Calls Tryz.prog 91 #[frV neg a n cap b m cap'] w (bo_ (frV (!neg) a n cap b m cap') w):=by
 have HG:Hid (((w.alloc (.cells #[.bool (!neg),.slice a n cap,.slice b m cap'] 44)).alloc (.cells #[.bool (!neg),.slice a n cap,.slice b m cap'] 44)).heap[w.heap.size+1]? = some (.cells #[.bool (!neg),.slice a n cap,.slice b m cap'] 44 (0,0))):=hd_ (d0_ w ((w.alloc (.cells #[.bool (!neg),.slice a n cap,.slice b m cap'] 44)).alloc (.cells #[.bool (!neg),.slice a n cap,.slice b m cap'] 44)) _ _ _ _ (Below.refl _ _)).2
 have HB:=hd_ (ab_ (aa_ w (.cells #[.bool (!neg),.slice a n cap,.slice b m cap'] 44)) (aa_ _ (.cells #[.bool (!neg),.slice a n cap,.slice b m cap'] 44)))
 go_enter Tryz.func91,Tryz.ntmps91
 unfold frV
 go_wp2
 refine bodyPost_ret (results_cell_row Tryz.results91 _ _ (w.heap.size+1) 44 #[.bool (!neg),.slice a n cap,.slice b m cap'] (0,0) _ rfl HG.out Tryz.underlying44 rfl (by kernel_rfl)) rfl ?_
 exact⟨rfl,HB.out⟩
theorem rj_(neg:Bool)(a:OA_)(n cap:Nat)(b:OA_)(m cap':Nat)(w:World) :
 Calls Tryz.prog 108 #[frV neg a n cap b m cap'] w (bo_ (frV neg b m cap' a n cap) w):=by
 have HG:Hid (((w.alloc (.cells #[.bool neg,.slice a n cap,.slice b m cap'] 44)).alloc (.cells #[.bool neg,.slice b m cap',.slice a n cap] 44)).heap[w.heap.size+1]? = some (.cells #[.bool neg,.slice b m cap',.slice a n cap] 44 (0,0))):=hd_ (d0_ w ((w.alloc (.cells #[.bool neg,.slice a n cap,.slice b m cap'] 44)).alloc (.cells #[.bool neg,.slice b m cap',.slice a n cap] 44)) _ _ _ _ (Below.refl _ _)).2
 have HB:=hd_ (ab_ (aa_ w (.cells #[.bool neg,.slice a n cap,.slice b m cap'] 44)) (aa_ _ (.cells #[.bool neg,.slice b m cap',.slice a n cap] 44)))
 go_enter Tryz.func108,Tryz.ntmps108
 unfold frV
 go_wp2
 refine bodyPost_ret (results_cell_row Tryz.results108 _ _ (w.heap.size+1) 44 #[.bool neg,.slice b m cap',.slice a n cap] (0,0) _ rfl HG.out Tryz.underlying44 rfl (by kernel_rfl)) rfl ?_
 exact⟨rfl,HB.out⟩
theorem gj_(neg:Bool)(a:OA_)(n cap:Nat)(la:List Nat)(b:OA_)(m cap':Nat)(lb:List Nat)(w:World)(ha:Wd w a n cap la)(hb:Wd w b m cap' lb)(hn:n≤104857600000)(hm:m≤104857600000) :
 Calls Tryz.prog 89 #[whV neg a n cap,.slice b m cap'] w (LstZ (zval neg (val la) * (val lb:Int)) w):=by
 have HB:=hd_ (ab_ (aa_ w (.cells #[.bool neg,.slice a n cap] 42)) (aa_ _ (.cells #[.bool false,.slice none 0 0] 42)))
 have HA:=hd_ (ha.later HB.out)
 have HC:=hd_ (hb.later HB.out)
 obtain⟨hx1,hx2⟩:=d0_ w ((w.alloc (.cells #[.bool neg,.slice a n cap] 42)).alloc (.cells #[.bool false,.slice none 0 0] 42)) #[.bool neg,.slice a n cap] #[.bool false,.slice none 0 0] 42 42 (Below.refl _ _)
 have HX:=hd_ hx1
 have HR:=hd_ hx2
 clear hx1 hx2 ha hb
 obtain⟨z,hz⟩:∃z,zval neg (val la) * (val lb:Int)=z:=⟨_,rfl⟩
 rw[hz]
 have HZ:=hd_ hz
 clear hz
 go_enter Tryz.func89,Tryz.ntmps89
 unfold whV
 obtain⟨vk0,vk1,vk2,vk3⟩:=a0_ HX.out HR.out
 go_wp2_with fail
 refine (n6_ neg a n cap la false b m cap' lb _ HA.out HC.out hn hm).mono ?_
 rintro e wv1 ⟨a1,n1,c1,rfl,h1,b⟩
 clear vk0 vk1 vk2 vk3
 replace HB:=bt_ HB b
 replace HX:=bl_ HX b
 replace HR:=bl_ HR b
 clear HA
 clear HC
 clear b
 rw[k7_,HZ.out] at h1 ⊢
 have R1:=hd_ h1
 clear h1
 unfold whV
 obtain⟨r0,r1⟩:=dt_ HR.out
 have f0:=ah_ HR.out 0
 have f1:=ah_ HR.out 1
 have HG:=hd_ (bk_ HR.out (.bool (zneg z)) (.slice a1 n1 c1))
 have HF:=hd_ (R1.out.stored2 HR.out (zneg z) (.slice a1 n1 c1))
 have HL:=hd_ (ay_ HB.out (show w.heap.size≤w.heap.size+1 by omega) (.bool (zneg z)) (.slice a1 n1 c1))
 go_wp2
 refine bodyPost_ret (results_cell_row Tryz.results89 _ _ (w.heap.size+1) 42 #[.bool (zneg z),.slice a1 n1 c1] (0,0) _ rfl HG.out Tryz.underlying42 rfl (by kernel_rfl)) rfl ?_
 exact⟨a1,n1,c1,rfl,HF.out,HL.out⟩
theorem eg_(x:Int)(w:World)(hx:gq_ x):Calls Tryz.prog 47 #[.int .i64 x] w (LstQ (x:Rat) w):=by
 have HX:=hd_ hx
 have HB:=hd_ (aa_ w (.cells #[.bool false,.slice none 0 0,.slice none 0 0] 44))
 have HR:=hd_ (ao_ w #[.bool false,.slice none 0 0,.slice none 0 0] 44)
 have HO:∀w':World,Calls Tryz.prog 97 #[.int .u64 1] w' (Lst (dg 1) w'):=fun w'=>natSaid.of 1 w' (by omega)
 have HN:Hid (x=(x:Rat).num):=hd_ (Rat.num_intCast x).symm
 have HD:Hid (1=(x:Rat).den):=hd_ (Rat.den_intCast x).symm
 clear hx
 generalize (x:Rat)=q at *
 go_enter Tryz.func47,Tryz.ntmps47
 obtain⟨vk0,vk1,vk2⟩:=av_ HR.out
 go_wp2_with fail
 refine (whole_of x _ HX.out).mono ?_
 rintro e wv1 ⟨a1,n1,c1,rfl,h1,b⟩
 clear vk0 vk1 vk2
 replace HB:=bt_ HB b
 replace HR:=bl_ HR b
 clear b
 have R1:=hd_ h1
 clear h1
 unfold whV
 obtain⟨vk0,vk1,vk2⟩:=av_ HR.out
 go_wp2_with fail
 refine (HO _).mono ?_
 rintro e wv2 ⟨b1,m1,d1,rfl,g1,b⟩
 clear vk0 vk1 vk2
 replace HB:=bt_ HB b
 replace HR:=bl_ HR b
 replace R1:=R1.l_ b
 clear b
 have T1:=hd_ g1
 clear g1
 generalize hz:zneg x=s at *
 have HS:=hd_ hz
 clear hz
 have q0:=ad_ HR.out 0
 have q1:=ad_ HR.out 1
 have q2:=ad_ HR.out 2
 simp only[List.getElem?_toArray,List.getElem?_cons_zero,List.getElem?_cons_succ] at q0 q1 q2
 have f0:=ah_ HR.out 0
 have f1:=ah_ HR.out 1
 have f2:=ah_ HR.out 2
 replace R1:=hd_ (R1.out.stored3 HR.out (s) a1 n1 c1 (.slice b1 m1 d1))
 replace T1:=hd_ (T1.out.stored3 HR.out (s) a1 n1 c1 (.slice b1 m1 d1))
 replace HB:=hd_ (a3_ HB.out (show w.heap.size≤w.heap.size by omega) (.bool s) (.slice a1 n1 c1) (.slice b1 m1 d1))
 replace HR:=hd_ (bu_ HR.out (.bool s) (.slice a1 n1 c1) (.slice b1 m1 d1))
 go_wp2
 refine bodyPost_ret (results_cell_row Tryz.results47 _ _ (w.heap.size) 44 #[.bool s,.slice a1 n1 c1,.slice b1 m1 d1] (0,0) _ rfl HR.out Tryz.underlying44 rfl (by kernel_rfl)) rfl ?_
 refine ⟨a1,n1,c1,b1,m1,d1,?_,?_,?_,HB.out⟩
 ·rw[←HN.out,HS.out];rfl
 ·rw[←HN.out];exact R1.out
 ·rw[←HD.out];exact T1.out
end Go.Proofs.YtocebjbjnfammaaGreat
