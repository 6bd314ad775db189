import Derived.Test.YtocebjbjnfammaaGreatLG4
import Derived.Test.YtocebjbjnfammaaGreatLG3
import Derived.Test.YtocebjbjnfammaaGreatLG1
set_option maxRecDepth 4096
set_option maxHeartbeats 16000000
namespace Go.Proofs.YtocebjbjnfammaaGreat
open Go.RowKit
theorem gz_(l:LR_)(k i:Nat):co (l.take k) i=if i < k then co l i else 0:=by
 unfold co
 rw[List.getD_eq_getElem?_getD,List.getElem?_take]
 split
 ·rw[List.getD_eq_getElem?_getD]
 ·rfl
def tab (n:Nat) (f:Nat→Rat):List Rat:=(List.range n).map f
theorem h2_(n:Nat)(f:Nat→Rat):(tab n f).length=n:=by unfold tab;simp
theorem tab_at{n k:Nat}{f:Nat→Rat}(h:k < n):(tab n f).getD k 0=f k:=by
 unfold tab
 rw[List.getD_eq_getElem?_getD,List.getElem?_map,List.getElem?_range h];rfl
theorem co_tab(n:Nat)(f:Nat→Rat)(i:Nat):co (tab n f) i=if i < n then f i else 0:=by
 split
 ·exact tab_at ‹_›
 ·exact dx_ (by rw[h2_];omega)
def pterm (a b:LR_) (k i:Nat):Rat:=co a i * co b (k - i)
def shot (d:Nat) (c:Rat):List Rat:=List.replicate d 0 ++ [c]
theorem el_(d:Nat)(c:Rat)(i:Nat):co (shot d c) i=if i=d then c else 0:=by
 unfold co shot
 rw[List.getD_eq_getElem?_getD]
 by_cases h1:i < d
 ·rw[List.getElem?_append_left (by simpa using h1),List.getElem?_replicate,if_pos h1,if_neg (by omega)];rfl
 ·rw[List.getElem?_append_right (by simpa using Nat.le_of_not_lt h1),List.length_replicate]
  by_cases h2:i=d
  ·rw[if_pos h2,h2,Nat.sub_self];rfl
  ·rw[if_neg h2,List.getElem?_eq_none (by simp;omega)];rfl
theorem shot_sum{d:Nat}{c:Rat}(b:LR_)(k i:Nat):b8_ i (pterm (shot d c) b k)=if d < i then c * co b (k - d) else 0:=by
 split
 ·rename_i h
  rw[li_ (k:=d) h (fun j _ h2=>by unfold pterm;rw[el_,if_neg h2,Rat.zero_mul])]
  unfold pterm
  rw[el_,if_pos rfl]
 ·rename_i h
  rw[bi_ (g:=fun _=>0) (fun j h2=>by unfold pterm;rw[el_,if_neg (by omega),Rat.zero_mul])]
  exact ef_ i
theorem c6_(d:Nat)(c:Rat)(b:LR_)(k:Nat):co (pmul (shot d c) b) k=if d≤k then c * co b (k - d) else 0:=by
 rw[cq_]
 have h:=shot_sum (d:=d) (c:=c) b k (k+1)
 unfold pterm at h
 rw[h]
 by_cases h1:d≤k
 ·rw[if_pos h1,if_pos (by omega)]
 ·rw[if_neg h1,if_neg (by omega)]
theorem fh_{b:List Rat}(h:aj_ b=b)(h0:0 < b.length):b.getD (b.length - 1) 0≠0:=by
 have h1:=az_ h
 have h2:=cv_ (a:=b) (n:=b.length - 1) (by omega)
 exact h2
theorem my_{A B Q R Q' X R':List Rat}{c:Rat}(hB:aj_ B=B)(h0:0 < B.length)(hl:B.length≤R.length)(h:peq A (padd (pmul Q B) R))
 (hc:c=R.getD (R.length - 1) 0 / B.getD (B.length - 1) 0) (hQ:peq Q' (padd Q (shot (R.length - B.length) c))) (hX:peq X (pmul (shot (R.length - B.length) c) B)) (hR:peq R' (psub R X)) (hr:aj_ R'=R') :
 peq A (padd (pmul Q' B) R')∧R'.length < R.length:=by
 refine ⟨fun i=>?_,?_⟩
 ·rw[h i,a1_,a1_,hR i,dh_,hX i,(au_ hQ (peq.refl B)) i,(d9_ _ _ _) i,a1_];grind
 ·have h1:plen R'≤R.length - 1:=ez_ fun i hi=>by
   rw[hR i,dh_,hX i,c6_,if_pos (by omega)]
   rcases Nat.lt_or_ge i R.length with h2 | h2
   ·have h3:i=R.length - 1:=by omega
    have h4:i - (R.length - B.length)=B.length - 1:=by omega
    rw[h4,h3,hc]
    show R.getD (R.length - 1) 0 - R.getD (R.length - 1) 0 / B.getD (B.length - 1) 0 * B.getD (B.length - 1) 0=0
    have h5:=fh_ hB h0
    rw[Rat.div_mul_cancel h5];grind
   ·rw[dx_ h2,dx_ (l:=B) (by omega)];grind
  rw[az_ hr] at h1
  omega
theorem m4_{d:Nat}{c:Rat}{b:List Rat}{C K:Nat}(hc:qlen c≤C)(hb:∀q∈b,qlen q≤K)(hK:1≤K)(k:Nat):qlen (co (pmul (shot d c) b) k)≤C+K+1:=by
 rw[c6_]
 split
 ·exact Nat.le_trans (cu_ _ _) (Nat.add_le_add_right (Nat.add_le_add hc (dd_ hK hb _)) 1)
 ·rw[dq_];omega
theorem div_len{B Q R Q' X R':List Rat}{c:Rat}{r K M:Nat}(hr1:1≤r)(hK1:1≤K)(hr:∀q∈R,qlen q≤r)(hb:∀q∈B,qlen q≤K)(hq:∀q∈Q,qlen q≤M)(hM:r+K+1≤M)
 (hc:c=R.getD (R.length - 1) 0 / B.getD (B.length - 1) 0) (hQ:peq Q' (padd Q (shot (R.length - B.length) c))) (hX:peq X (pmul (shot (R.length - B.length) c) B)) (hR:peq R' (psub R X)) (hfree:co Q (R.length - B.length)=0) :
 qlen c≤r+K+1∧(∀q∈X,qlen q≤r+K+K+2)∧(∀q∈R',qlen q≤r+r+K+K+4)∧(∀q∈Q',qlen q≤M):=by
 have h1:qlen c≤r+K+1:=by
  rw[hc]
  exact Nat.le_trans (je_ _ _) (Nat.add_le_add_right (Nat.add_le_add (dd_ hr1 hr _) (dd_ hK1 hb _)) 1)
 have h2:∀i,qlen (co X i)≤r+K+K+2:=fun i=>by
  rw[hX i]
  exact Nat.le_trans (m4_ h1 hb hK1 i) (by omega)
 refine ⟨h1,cc_ h2,cc_ fun i=>?_,cc_ fun i=>?_⟩
 ·rw[hR i,dh_]
  have h3:=qlen_sub (co R i) (co X i)
  have h4:=dd_ hr1 hr i
  have h5:=h2 i
  omega
 ·rw[hQ i,a1_,el_]
  by_cases h3:i=R.length - B.length
  ·rw[if_pos h3,h3,hfree,Rat.zero_add];omega
  ·rw[if_neg h3,Rat.add_zero]
   exact dd_ (by omega) hq i
structure Divs (A B Q R:LR_) (n K S t:Nat):Prop where
 sum:peq A (padd (pmul Q B) R)
 right:aj_ R=R
 way:t+R.length≤n
 most:t≤n+1 - B.length
 rlen:∀q∈R,qlen q+(K+K+6)≤2 ^ t * S
 qlen:∀q∈Q,Go.Proofs.YtocebjbjnfammaaGreat.qlen q+(K+5)≤2 ^ (n+1 - B.length) * S
 free:∀i,i+B.length≤R.length→co Q i=0
theorem Divs.start{A B R:List Rat}{n N K S:Nat}(hR:aj_ A=R)(hn:R.length≤n)(hA:∀q∈R,Go.Proofs.YtocebjbjnfammaaGreat.qlen q≤N)(hS:N+(K+K+6)=S):Divs A B [] R n K S 0:=by
 subst hR
 exact⟨fun i=>by rw[a1_,pmul,dp_,ar_];grind,a2_ A,by omega,by omega,fun q hq=>by have:=hA q hq;rw[Nat.pow_zero,Nat.one_mul];omega,fun q hq=>by simp at hq,fun _ _=>rfl⟩
theorem Divs.left{A B Q R:List Rat}{n K S t:Nat}(h:Divs A B Q R n K S t)(h0:0 < R.length):∃r,1≤r∧r+(K+K+6)=2 ^ t * S∧∀q∈R,Go.Proofs.YtocebjbjnfammaaGreat.qlen q≤r:=by
 have h1:=h.rlen _ (mu_ (k:=0) h0)
 have h2:=jc_ (R.getD 0 0)
 refine ⟨2 ^ t * S - (K+K+6),by omega,by omega,fun q hq=>?_⟩
 have:=h.rlen q hq
 omega
theorem cz_{a b:Nat}(h:a≤b)(c:Nat):2 ^ a * c≤2 ^ b * c:=Nat.mul_le_mul_right c (Nat.pow_le_pow_right (by decide) h)
theorem Divs.step{A B Q R Q' X R':List Rat}{n K S t:Nat}{c:Rat}(h:Divs A B Q R n K S t)(hB:aj_ B=B)(h0:0 < B.length)(hl:B.length≤R.length)(hb:∀q∈B,Go.Proofs.YtocebjbjnfammaaGreat.qlen q≤K)
 (hc:c=R.getD (R.length - 1) 0 / B.getD (B.length - 1) 0) (hQ:peq Q' (padd Q (shot (R.length - B.length) c))) (hX:peq X (pmul (shot (R.length - B.length) c) B)) (hR:peq R' (psub R X)) (hr:aj_ R'=R') :
 Divs A B Q' R' n K S (t+1)∧R'.length < R.length:=by
 obtain⟨h1,h2⟩:=my_ hB h0 hl h.sum hc hQ hX hR hr
 obtain⟨r,hr1,hr2,hr3⟩:=h.left (by omega)
 have hK1:1≤K:=Nat.le_trans (jc_ (B.getD 0 0)) (hb _ (mu_ (k:=0) h0))
 have hw:=h.way
 have hp:2 ^ t * S≤2 ^ (n+1 - B.length) * S:=cz_ (by omega) S
 obtain⟨M,hM⟩:∃M,M+(K+5)=2 ^ (n+1 - B.length) * S:=⟨2 ^ (n+1 - B.length) * S - (K+5),by omega⟩
 obtain⟨_,_,g3,g4⟩:=div_len (M:=M) hr1 hK1 hr3 hb (fun q hq=>by have:=h.qlen q hq;omega) (by omega) hc hQ hX hR (h.free _ (by omega))
 refine ⟨⟨h1,hr,by omega,by omega,fun q hq=>?_,fun q hq=>?_,fun i hi=>?_⟩,h2⟩
 ·have:=g3 q hq
  rw[Nat.pow_succ,Nat.mul_assoc,Nat.mul_comm 2 S,←Nat.mul_assoc];omega
 ·have:=g4 q hq
  omega
 ·rw[hQ i,a1_,el_,if_neg (by omega),h.free i (by omega)];grind
theorem Divs.room{A B Q R:List Rat}{n K S t:Nat}(h:Divs A B Q R n K S t)(h0:0 < B.length)(hl:B.length≤R.length)(hb:∀q∈B,Go.Proofs.YtocebjbjnfammaaGreat.qlen q≤K){T:Nat}(hT:2 ^ (n+1 - B.length) * S≤T) :
 1≤K∧(∀q∈R,Go.Proofs.YtocebjbjnfammaaGreat.qlen q≤T)∧(∀q∈Q,Go.Proofs.YtocebjbjnfammaaGreat.qlen q≤T)∧Go.Proofs.YtocebjbjnfammaaGreat.qlen (R.getD (R.length - 1) 0 / B.getD (B.length - 1) 0)+K+5≤T:=by
 have hK1:1≤K:=Nat.le_trans (jc_ (B.getD 0 0)) (hb _ (mu_ (k:=0) h0))
 have hw:=h.way
 have hp:2 ^ t * S≤2 ^ (n+1 - B.length) * S:=cz_ (by omega) S
 obtain⟨r,hr1,hr2,hr3⟩:=h.left (by omega)
 refine ⟨hK1,fun q hq=>by have:=h.rlen q hq;omega,fun q hq=>by have:=h.qlen q hq;omega,?_⟩
 have h1:=je_ (R.getD (R.length - 1) 0) (B.getD (B.length - 1) 0)
 have h2:=dd_ hr1 hr3 (R.length - 1)
 have h3:=dd_ hK1 hb (B.length - 1)
 unfold co at h2 h3
 omega
theorem Divs.over{A B Q R:List Rat}{n K S t:Nat}(h:Divs A B Q R n K S t)(hB:aj_ B=B)(hl:R.length < B.length) :
 isDiv A B (aj_ Q) R∧R.length≤n∧(∀q∈R,Go.Proofs.YtocebjbjnfammaaGreat.qlen q+(K+K+6)≤2 ^ (n+1 - B.length) * S)∧(∀q∈aj_ Q,Go.Proofs.YtocebjbjnfammaaGreat.qlen q≤2 ^ (n+1 - B.length) * S):=by
 have hw:=h.way
 refine ⟨⟨fun i=>?_,by rw[az_ h.right,az_ hB];exact hl⟩,by omega,fun q hq=>Nat.le_trans (h.rlen q hq) (cz_ h.most S),fun q hq=>by have:=h.qlen q (hr_ hq);omega⟩
 rw[h.sum i,a1_,a1_,(au_ (ar_ Q) (peq.refl B)) i]
structure Gcds (A B x y:LR_) (X Y E:Nat):Prop where
 way:∀g,common x y g→common A B g
 xr:aj_ x=x
 yr:aj_ y=y
 xl:∀q∈x,qlen q≤X
 yl:∀q∈y,qlen q≤Y
 len:2 ^ (x.length+y.length+y.length) * (X+Y+Y+6)≤E
theorem Gcds.step{A B x y q r:List Rat}{X Y E:Nat}(h:Gcds A B x y X Y E)(hd:isDiv x y q r)(hr:aj_ r=r)(hn:r.length≤x.length)
 (hl:∀u∈r,qlen u+(Y+Y+6)≤2 ^ (x.length+1 - y.length) * (X+(Y+Y+6))):∃Z,Gcds A B y r Y Z E∧r.length < y.length:=by
 have hm:r.length < y.length:=by
  have:=hd.2
  rwa [az_ hr,az_ h.yr] at this
 have hp:(2:Nat) ^ 0 * (X+(Y+Y+6))≤2 ^ (x.length+1 - y.length) * (X+(Y+Y+6)):=cz_ (by omega) _
 obtain⟨Z,hZ⟩:∃Z,Z+(Y+Y+6)=2 ^ (x.length+1 - y.length) * (X+(Y+Y+6)):=⟨2 ^ (x.length+1 - y.length) * (X+(Y+Y+6)) - (Y+Y+6),by omega⟩
 refine ⟨Z,⟨fun g hg=>h.way g (common.step hd.1 hg),h.yr,hr,h.yl,fun u hu=>by have:=hl u hu;omega,Nat.le_trans ?_ h.len⟩,hm⟩
 rw[show X+Y+Y+6=X+(Y+Y+6) by omega]
 by_cases hnm:x.length < y.length
 ·have e:x.length+1 - y.length=0:=by omega
  rw[e,Nat.pow_zero,Nat.one_mul] at hZ
  have h1:Y+Z+Z+6≤2 * (X+(Y+Y+6)):=by omega
  refine Nat.le_trans (Nat.mul_le_mul_left _ h1) ?_
  rw[←Nat.mul_assoc,←Nat.pow_succ]
  exact cz_ (by omega) _
 ·have h1:Y+Z+Z+6≤2 * (2 ^ (x.length+1 - y.length) * (X+(Y+Y+6))):=by omega
  refine Nat.le_trans (Nat.mul_le_mul_left _ h1) ?_
  rw[←Nat.mul_assoc,←Nat.mul_assoc,←Nat.pow_succ,←Nat.pow_add]
  exact cz_ (by omega) _
theorem Gcds.room{A B x y:List Rat}{X Y E:Nat}(h:Gcds A B x y X Y E):X≤E∧Y≤E∧2 ^ (x.length+1 - y.length) * (X+(Y+Y+6))≤E+E:=by
 have h1:=h.len
 have h2:(2:Nat) ^ 0 * (X+Y+Y+6)≤2 ^ (x.length+y.length+y.length) * (X+Y+Y+6):=cz_ (by omega) _
 have h3:(2:Nat) ^ (x.length+1 - y.length) * (X+Y+Y+6)≤2 ^ (x.length+y.length+y.length+1) * (X+Y+Y+6):=cz_ (by omega) _
 rw[Nat.pow_succ,Nat.mul_comm _ 2,Nat.mul_assoc] at h3
 rw[show X+(Y+Y+6)=X+Y+Y+6 by omega]
 omega
theorem Gcds.none{A B:List Rat}{X Y E:Nat}(h:Gcds A B [] [] X Y E):isGcd A B []:=⟨h.way _ (common.none _),fun n hn=>by rw[gi_] at hn;omega⟩
theorem Gcds.over{A B x:List Rat}{X Y E:Nat}{c:Rat}(h:Gcds A B x [] X Y E)(h0:0 < x.length)(hc:c=1 / x.getD (x.length - 1) 0) :
 isGcd A B (aj_ (af_ c x))∧qlen c≤E∧∀q∈aj_ (af_ c x),qlen q≤E:=by
 have ht:=fh_ h.xr h0
 have hcx:c * x.getD (x.length - 1) 0=1:=by rw[hc];exact Rat.div_mul_cancel ht
 have hc0:c≠0:=fun e=>by rw[e,Rat.zero_mul] at hcx;exact absurd hcx (by decide)
 have hx1:1≤X:=Nat.le_trans (jc_ _) (h.xl _ (mu_ h0))
 have hlc:qlen c≤X:=by
  rw[hc,Rat.div_def,Rat.one_mul]
  exact Nat.le_trans (g9_ _) (dd_ hx1 h.xl (x.length - 1))
 have hE:X+X+12≤E:=by
  have h1:=h.len
  have h2:(2:Nat) ^ 1 * (X+Y+Y+6)≤2 ^ (x.length+([]:LR_).length+([]:LR_).length) * (X+Y+Y+6):=cz_ (by simp;omega) _
  omega
 refine ⟨⟨((h.way _ (common.none x)).scale hc0).of (peq.refl _) (peq.refl _) (ar_ _).symm,fun n hn=>?_⟩,by omega,fun q hq=>?_⟩
 ·have h1:plen (aj_ (af_ c x))=x.length:=by rw[am_ (ar_ _),a9_ hc0,az_ h.xr]
  have h2:n=x.length - 1:=by omega
  rw[fk_,ai_,h2]
  exact hcx
 ·have h1:=et_ hlc h.xl q (hr_ hq)
  omega
def pw (t:Nat):Nat:=4294967296 ^ t
theorem d7_(a b:Nat):pw (a+b)=pw a * pw b:=Nat.pow_add _ _ _
theorem b1_{a b:Nat}(h:a≤b):pw a≤pw b:=Nat.pow_le_pow_right (by decide) h
theorem ex_(a:Nat):0 < pw a:=Nat.pow_pos (by decide)
theorem k1_:pw 1=4294967296:=by decide
theorem pw_lt(a:Nat):pw a < pw (a+1):=Nat.pow_lt_pow_right (by decide) (Nat.lt_succ_self a)
theorem dg_{z:Int}{n t:Nat}(hz:z.natAbs≤pw t)(hn:n≤pw t):qlen ((z:Rat) / ((n:Nat):Rat))≤t+2:=by
 rw[←Rat.mkRat_eq_div]
 have h1:=h9_ z n
 have h2:=pw_lt t
 have h3:(dg z.natAbs).length≤t+1:=bh_ (Nat.lt_of_le_of_lt hz h2)
 have h4:(dg n).length≤t+1:=bh_ (Nat.lt_of_le_of_lt hn h2)
 omega
theorem c3_{z y:Int}{t:Nat}(hz:z.natAbs≤pw t)(hy:y.natAbs≤pw t):qlen ((z:Rat) / (y:Rat))≤t+2:=by
 rcases Int.natAbs_eq y with e | e
 ·rw[e]
  exact dg_ hz hy
 ·have h1:(z:Rat) / (y:Rat)=((-z:Int):Rat) / ((y.natAbs:Nat):Rat):=by
   have h2:(y:Rat) = -((y.natAbs:Nat):Rat):=by
    rw[←Rat.intCast_natCast,←Rat.intCast_neg,←e]
   by_cases hy0:y=0
   ·rw[hy0]
    show (z:Rat) / 0=((-z:Int):Rat) / ((0:Nat):Rat)
    show (z:Rat) / 0=((-z:Int):Rat) / 0
    rw[Rat.div_def,Rat.div_def,Rat.inv_zero];grind
   ·have hn:((y.natAbs:Nat):Rat)≠0:=fun e2=>by
     have e3:y.natAbs=0:=Rat.natCast_inj.1 (e2.trans rfl)
     exact hy0 (Int.natAbs_eq_zero.1 e3)
    have hyn:(y:Rat)≠0:=fun e2=>hy0 (Rat.intCast_inj.1 e2)
    have g1:(z:Rat) / (y:Rat) * (y:Rat)=(z:Rat):=Rat.div_mul_cancel hyn
    have g2:((-z:Int):Rat) / ((y.natAbs:Nat):Rat) * ((y.natAbs:Nat):Rat)=((-z:Int):Rat):=Rat.div_mul_cancel hn
    rw[Rat.intCast_neg] at g2 ⊢
    generalize (z:Rat) / (y:Rat)=p at *
    generalize -(z:Rat) / ((y.natAbs:Nat):Rat)=r at *
    have g3:((y.natAbs:Nat):Rat) * (p - r)=0:=by rw[h2] at g1;grind
    rcases Rat.mul_eq_zero.1 g3 with g | g
    ·exact absurd g hn
    ·grind
  rw[h1]
  exact dg_ (by omega) hy
theorem num_lt{q:Rat}{N:Nat}(h:qlen q≤N):q.num.natAbs≤pw N:=Nat.le_of_lt (dg_length_pow.1 (Nat.le_trans (bf_ q) h))
theorem den_lt{q:Rat}{N:Nat}(h:qlen q≤N):q.den≤pw N:=Nat.le_of_lt (dg_length_pow.1 (Nat.le_trans (bd_ q) h))
theorem den_mul(q:Rat):((q.den:Nat):Rat) * q=(q.num:Rat):=by
 have h:q=(q.num:Rat) / ((q.den:Nat):Rat):=by rw[←Rat.mkRat_eq_div,Rat.mkRat_self]
 have hd:((q.den:Nat):Rat)≠0:=fun e=>q.den_nz (Rat.natCast_inj.1 e)
 rw[Rat.mul_comm]
 have h2:(q.num:Rat) / ((q.den:Nat):Rat) * ((q.den:Nat):Rat)=(q.num:Rat):=Rat.div_mul_cancel hd
 rw[←h] at h2
 exact h2
theorem ints_of{N:Nat}:∀(l:LR_),(∀q∈l,qlen q≤N)→∃c:Nat,0 < c∧c≤pw (N * l.length)∧Ints (af_ ((c:Nat):Rat) l) (pw (N * l.length))
 | [],_=>⟨1,by decide,Nat.le_refl _,fun i=>⟨0,rfl,Nat.zero_le _⟩⟩
 | x :: l,h=>by
   obtain⟨c,h1,h2,h3⟩:=ints_of l (fun q hq=>h q (List.mem_cons_of_mem _ hq))
   have hx:=h x (List.mem_cons_self ..)
   have e:pw (N * (x :: l).length)=pw N * pw (N * l.length):=by rw[List.length_cons,Nat.mul_add,Nat.mul_one,Nat.add_comm,d7_]
   refine ⟨x.den * c,Nat.mul_pos x.den_pos h1,?_,fun i=>?_⟩
   ·rw[e];exact Nat.mul_le_mul (den_lt hx) h2
   ·rw[ai_,Rat.natCast_mul,e]
    cases i with
    | zero=>
      refine ⟨x.num * (c:Int),?_,?_⟩
      ·have:=den_mul x
       rw[eo_,Rat.intCast_mul,Rat.intCast_natCast,←this];grind
      ·rw[Int.natAbs_mul,Int.natAbs_natCast]
       exact Nat.mul_le_mul (num_lt hx) h2
    | succ i=>
      obtain⟨z,g1,g2⟩:=h3 i
      refine ⟨(x.den:Int) * z,?_,?_⟩
      ·rw[ai_] at g1
       rw[bm_,Rat.intCast_mul,Rat.intCast_natCast,←g1];grind
      ·rw[Int.natAbs_mul,Int.natAbs_natCast]
       exact Nat.mul_le_mul (den_lt hx) g2
structure DivZ (A B Q R:LR_) (k:Rat) (n s S M t:Nat):Prop where
 sum:peq A (padd (pmul Q B) R)
 right:aj_ R=R
 way:t+R.length≤n
 most:t≤n+1 - B.length
 form:∃(y:Int) (T:LR_),y≠0∧y.natAbs≤pw (t * S)∧Ints T (pw (s+t * (S+1)))∧peq (af_ (y:Rat) R) (af_ k T)
 qs:∀q∈Q,qlen q≤M
 free:∀i,i+B.length≤R.length→co Q i=0
theorem DivZ.start{A B R P:List Rat}{k:Rat}{n s S M:Nat}(hR:aj_ A=R)(hn:R.length≤n)(hP:Ints P (pw s))(hA:peq A (af_ k P)):DivZ A B [] R k n s S M 0:=by
 subst hR
 refine ⟨fun i=>by rw[a1_,pmul,dp_,ar_];grind,a2_ A,by omega,by omega,⟨1,P,by decide,?_,?_,fun i=>?_⟩,fun q hq=>by simp at hq,fun _ _=>rfl⟩
 ·rw[Nat.zero_mul];exact Nat.le_refl _
 ·rw[Nat.zero_mul];exact hP
 ·rw[ai_,ar_,hA i]
  show (1:Rat) * _=_
  rw[Rat.one_mul]
structure DivL (B Z:LR_) (l:Rat) (z:Int) (S:Nat):Prop where
 right:aj_ B=B
 pos:0 < B.length
 ints:Ints Z (pw S)
 form:peq B (af_ l Z)
 top:co Z (B.length - 1)=(z:Rat)
 nz:z≠0
 zle:z.natAbs≤pw S
 lnz:l≠0
theorem DivL.of{B Z:List Rat}{l:Rat}{S:Nat}(hB:aj_ B=B)(h0:0 < B.length)(hZ:Ints Z (pw S))(h:peq B (af_ l Z)):∃z,DivL B Z l z S:=by
 obtain⟨z,h1,h2⟩:=hZ (B.length - 1)
 have h3:=fh_ hB h0
 have h4:=h (B.length - 1)
 rw[ai_,h1] at h4
 have h5:l * (z:Rat)≠0:=fun e=>h3 (h4.trans e)
 refine ⟨z,hB,h0,hZ,h,h1,fun e=>h5 (by rw[e];show l * 0=0;grind),h2,fun e=>h5 (by rw[e];grind)⟩
theorem ej_{z:Int}(h:z≠0):(z:Rat)≠0:=fun e=>h (Rat.intCast_inj.1 e)
theorem DivZ.rlen{A B Q R:List Rat}{k:Rat}{n s S M t:Nat}(h:DivZ A B Q R k n s S M t):∀q∈R,qlen q≤qlen k+(s+t * (S+1))+3:=by
 obtain⟨y,T,h1,h2,h3,h4⟩:=h.form
 refine cc_ fun i=>?_
 obtain⟨z,g1,g2⟩:=h3 i
 have e:=h4 i
 rw[ai_,ai_,g1] at e
 have hy:=ej_ h1
 have e2:co R i=k * ((z:Rat) / (y:Rat)):=by
  have e3:(z:Rat) / (y:Rat) * (y:Rat)=(z:Rat):=Rat.div_mul_cancel hy
  have e4:(y:Rat) * (co R i - k * ((z:Rat) / (y:Rat)))=0:=by grind
  rcases Rat.mul_eq_zero.1 e4 with g | g
  ·exact absurd g hy
  ·grind
 rw[e2]
 have q1:=cu_ k ((z:Rat) / (y:Rat))
 have q2:=c3_ (t:=s+t * (S+1)) g2 (Nat.le_trans h2 (b1_ (by rw[Nat.mul_add];omega)))
 omega
theorem DivZ.clen{A B Q R Z:List Rat}{k l:Rat}{z:Int}{n s S M t:Nat}(h:DivZ A B Q R k n s S M t)(hl:DivL B Z l z S):qlen (R.getD (R.length - 1) 0 / B.getD (B.length - 1) 0)≤qlen k+qlen l+(s+(t+1) * (S+1))+4:=by
 obtain⟨y,T,h1,h2,h3,h4⟩:=h.form
 obtain⟨x,g1,g2⟩:=h3 (R.length - 1)
 have e:=h4 (R.length - 1)
 rw[ai_,ai_,g1] at e
 have eb:=hl.form (B.length - 1)
 rw[ai_,hl.top] at eb
 have hy:=ej_ h1
 have hz:=ej_ hl.nz
 have hlz:=hl.lnz
 have hyz:y * z≠0:=fun e=>by rcases Int.mul_eq_zero.1 e with g | g;exact h1 g;exact hl.nz g
 have e2:R.getD (R.length - 1) 0 / B.getD (B.length - 1) 0=k / l * ((x:Rat) / ((y * z:Int):Rat)):=by
  have b0:B.getD (B.length - 1) 0=l * (z:Rat):=eb
  have r0:(y:Rat) * R.getD (R.length - 1) 0=k * (x:Rat):=e
  rw[b0,Rat.intCast_mul,Rat.div_def,Rat.div_def,Rat.div_def]
  have i1:(l * (z:Rat)) * (l * (z:Rat))⁻¹=1:=Rat.mul_inv_cancel _ (fun e=>by rcases Rat.mul_eq_zero.1 e with g | g;exact hlz g;exact hz g)
  have i2:l * l⁻¹=1:=Rat.mul_inv_cancel _ hlz
  have i3:((y:Rat) * (z:Rat)) * ((y:Rat) * (z:Rat))⁻¹=1:=Rat.mul_inv_cancel _ (fun e=>by rcases Rat.mul_eq_zero.1 e with g | g;exact hy g;exact hz g)
  generalize (l * (z:Rat))⁻¹=u at *
  generalize l⁻¹=l' at *
  generalize ((y:Rat) * (z:Rat))⁻¹=w at *
  generalize R.getD (R.length - 1) 0=r at *
  have e5:l * (z:Rat) * (y:Rat) * (r * u - k * l' * ((x:Rat) * w))=0:=by grind
  rcases Rat.mul_eq_zero.1 e5 with g | g
  ·rcases Rat.mul_eq_zero.1 g with g | g
   ·rcases Rat.mul_eq_zero.1 g with g | g
    ·exact absurd g hlz
    ·exact absurd g hz
   ·exact absurd g hy
  ·grind
 rw[e2]
 have q1:=cu_ (k / l) ((x:Rat) / ((y * z:Int):Rat))
 have q2:=je_ k l
 have q3:=c3_ (z:=x) (y:=y * z) (t:=s+(t+1) * (S+1)) (Nat.le_trans g2 (b1_ (by rw[Nat.add_mul];omega))) (by
  rw[Int.natAbs_mul]
  refine Nat.le_trans (Nat.mul_le_mul h2 hl.zle) ?_
  rw[←d7_]
  exact b1_ (by rw[Nat.add_mul,Nat.mul_add,Nat.one_mul];omega))
 omega
theorem two_pw(a:Nat):pw a+pw a≤pw (a+1):=by
 rw[d7_,k1_]
 omega
theorem DivZ.step{A B Q R Z Q' X R':List Rat}{k l c:Rat}{z:Int}{n s S M t:Nat}(h:DivZ A B Q R k n s S M t)(hl:DivL B Z l z S)(hle:B.length≤R.length)(hM:qlen k+qlen l+(s+(n+1 - B.length) * (S+1))+4≤M)
 (hc:c=R.getD (R.length - 1) 0 / B.getD (B.length - 1) 0) (hQ:peq Q' (padd Q (shot (R.length - B.length) c))) (hX:peq X (pmul (shot (R.length - B.length) c) B)) (hR:peq R' (psub R X)) (hr:aj_ R'=R') :
 DivZ A B Q' R' k n s S M (t+1)∧R'.length < R.length:=by
 obtain⟨g1,g2⟩:=my_ hl.right hl.pos hle h.sum hc hQ hX hR hr
 have hw:=h.way
 have hp:=hl.pos
 have hcl:qlen c≤M:=by
  rw[hc]
  refine Nat.le_trans (h.clen hl) (Nat.le_trans ?_ hM)
  have:(t+1) * (S+1)≤(n+1 - B.length) * (S+1):=Nat.mul_le_mul_right _ (by omega)
  omega
 refine ⟨⟨g1,hr,by omega,by omega,?_,cc_ fun i=>?_,fun i hi=>?_⟩,g2⟩
 ·obtain⟨y,T,h1,h2,h3,h4⟩:=h.form
  obtain⟨x,x1,x2⟩:=h3 (R.length - 1)
  refine ⟨z * y,psub (af_ (z:Rat) T) (af_ (x:Rat) (pmul (shot (R.length - B.length) 1) Z)),fun e=>by rcases Int.mul_eq_zero.1 e with g | g;exact hl.nz g;exact h1 g,?_,fun i=>?_,fun i=>?_⟩
  ·rw[Int.natAbs_mul]
   refine Nat.le_trans (Nat.mul_le_mul hl.zle h2) ?_
   rw[←d7_]
   exact b1_ (by rw[Nat.add_mul];omega)
  ·obtain⟨u,u1,u2⟩:=h3 i
   have hb:pw S * pw (s+t * (S+1))+pw S * pw (s+t * (S+1))≤pw (s+(t+1) * (S+1)):=by
    rw[←d7_]
    refine Nat.le_trans (two_pw _) (b1_ ?_)
    rw[Nat.add_mul];omega
   by_cases hi:R.length - B.length≤i
   ·obtain⟨v,v1,v2⟩:=hl.ints (i - (R.length - B.length))
    refine ⟨z * u - x * v,?_,?_⟩
    ·rw[dh_,ai_,ai_,c6_,if_pos hi,u1,v1,Rat.intCast_sub,Rat.intCast_mul,Rat.intCast_mul,Rat.one_mul]
    ·have a1:(z * u).natAbs≤pw S * pw (s+t * (S+1)):=by rw[Int.natAbs_mul];exact Nat.mul_le_mul hl.zle u2
     have a2:(x * v).natAbs≤pw S * pw (s+t * (S+1)):=by rw[Int.natAbs_mul,Nat.mul_comm];exact Nat.mul_le_mul v2 x2
     omega
   ·refine ⟨z * u,?_,?_⟩
    ·rw[dh_,ai_,ai_,c6_,if_neg hi,u1,Rat.intCast_mul];grind
    ·have a1:(z * u).natAbs≤pw S * pw (s+t * (S+1)):=by rw[Int.natAbs_mul];exact Nat.mul_le_mul hl.zle u2
     omega
  ·have e:=h4 i
   have et:=h4 (R.length - 1)
   have eb:=hl.form (B.length - 1)
   rw[ai_,ai_] at e et
   rw[ai_,hl.top] at eb
   rw[x1] at et
   have b0:B.getD (B.length - 1) 0=l * (z:Rat):=eb
   have r0:(y:Rat) * R.getD (R.length - 1) 0=k * (x:Rat):=et
   have bn:=fh_ hl.right hl.pos
   have c0:c * B.getD (B.length - 1) 0=R.getD (R.length - 1) 0:=by rw[hc];exact Rat.div_mul_cancel bn
   rw[b0] at c0
   rw[ai_,ai_,hR i,dh_,hX i,c6_,dh_,ai_,ai_,c6_,Rat.intCast_mul]
   generalize R.getD (R.length - 1) 0=rt at *
   split
   ·have ef:=hl.form (i - (R.length - B.length))
    rw[ai_] at ef
    rw[ef]
    grind
   ·grind
 ·rw[hQ i,a1_,el_]
  by_cases h3:i=R.length - B.length
  ·rw[if_pos h3,h3,h.free _ (by omega),Rat.zero_add];exact hcl
  ·rw[if_neg h3,Rat.add_zero]
   rcases Nat.lt_or_ge i Q.length with h5 | h5
   ·exact h.qs _ (mu_ h5)
   ·rw[dx_ h5,dq_];omega
 ·rw[hQ i,a1_,el_,if_neg (by omega),h.free i (by omega)];grind
structure DivWay (A B:LR_) (K T:Nat) (I:List Rat→List Rat→Prop):Prop where
 start:I [] (aj_ A)
 step:∀{Q R Q' X R':List Rat} {c:Rat},I Q R→aj_ R=R→B.length≤R.length→c=R.getD (R.length - 1) 0 / B.getD (B.length - 1) 0→peq Q' (padd Q (shot (R.length - B.length) c))→peq X (pmul (shot (R.length - B.length) c) B)→peq R' (psub R X)→aj_ R'=R'→I Q' R'
 room:∀{Q R:List Rat},I Q R→(∀q∈R,qlen q≤T)∧∀q∈Q,qlen q≤T
 top:∀{Q R:List Rat},I Q R→aj_ R=R→B.length≤R.length→qlen (R.getD (R.length - 1) 0 / B.getD (B.length - 1) 0)+K+5≤T
structure GcdWay (A B:LR_) (T E:Nat) (J:List Rat→List Rat→Prop):Prop where
 start:J (aj_ A) (aj_ B)
 div:∀{x y:List Rat},J x y→aj_ x=x→aj_ y=y→0 < y.length→∃K I,(∀q∈y,qlen q≤K)∧(∀q∈x,qlen q≤T)∧DivWay x y K T I
 step:∀{x y q r:List Rat},J x y→aj_ x=x→aj_ y=y→0 < y.length→isDiv x y q r→aj_ r=r→J y r
 over:∀{x:List Rat},J x []→aj_ x=x→0 < x.length→qlen (1 / x.getD (x.length - 1) 0)≤T∧(∀q∈x,qlen q≤T)∧(∀q∈aj_ (af_ (1 / x.getD (x.length - 1) 0) x),qlen q≤E)∧∃z:Int,z≠0∧z.natAbs≤pw E∧Ints (af_ (z:Rat) (aj_ (af_ (1 / x.getD (x.length - 1) 0) x))) (pw E)
theorem DivWay.new{A B P Z:List Rat}{k l:Rat}{z:Int}{n s S K M T:Nat}(hl:DivL B Z l z S)(hn:(aj_ A).length≤n)(hP:Ints P (pw s))(hA:peq A (af_ k P))(hM:qlen k+qlen l+(s+(n+1 - B.length) * (S+1))+4≤M)(hT:M+K+5≤T) :
 DivWay A B K T (fun Q R=>∃t,DivZ A B Q R k n s S M t) where
 start:=⟨0,DivZ.start rfl hn hP hA⟩
 step:=fun ⟨t,h⟩ _ hle hc hQ hX hR hr=>⟨t+1,(h.step hl hle hM hc hQ hX hR hr).1⟩
 room:=fun ⟨t,h⟩=>by
  have hp:t * (S+1)≤(n+1 - B.length) * (S+1):=Nat.mul_le_mul_right _ h.most
  exact⟨fun q hq=>by have:=h.rlen q hq;omega,fun q hq=>by have:=h.qs q hq;omega⟩
 top:=fun ⟨t,h⟩ _ hle=>by
  have hw:=h.way
  have h0:=hl.pos
  have h1:=h.clen hl
  have hp:(t+1) * (S+1)≤(n+1 - B.length) * (S+1):=Nat.mul_le_mul_right _ (by omega)
  omega
theorem jp_{A B Z:List Rat}{k l:Rat}{z:Int}{n s S M:Nat}(hl:DivL B Z l z S)(hM:qlen k+qlen l+(s+(n+1 - B.length) * (S+1))+4≤M) :
 ∀(N:Nat) (Q R:LR_) (t:Nat),R.length≤N→DivZ A B Q R k n s S M t→∃Q' R' t',DivZ A B Q' R' k n s S M t'∧R'.length < B.length
 | 0,Q,R,t,hN,h=>⟨Q,R,t,h,by have:=hl.pos;omega⟩
 | N+1,Q,R,t,hN,h=>by
   by_cases hle:B.length≤R.length
   ·obtain⟨g1,g2⟩:=h.step hl hle hM rfl (peq.refl _) (peq.refl _) (ar_ _) (a2_ _)
    exact jp_ hl hM N _ _ _ (by omega) g1
   ·exact⟨Q,R,t,h,by omega⟩
theorem Eu.congr{A B x y x' y':List Rat}(h:Eu A B x y)(hx:peq x x')(hy:peq y y'):Eu A B x' y':=by
 obtain⟨⟨ux,vx,uy,vy,e,he,h1,h2,h3,h4,h5,h6,h7⟩,hl,hs,hm⟩:=h
 have ex:=am_ hx
 have ey:=am_ hy
 exact⟨⟨ux,vx,uy,vy,e,he,hx.symm.trans h1,hy.symm.trans h2,h3,by omega,by omega,by omega,by omega⟩,by omega,by omega,hm⟩
def EuS (A B x y:LR_):Prop:=(peq x A∧peq y B)∨(peq x B∧peq y A∧plen A < plen B)∨Eu A B x y∨Eu B A x y
theorem EuS.step{A B x y q r:List Rat}(h:EuS A B x y)(hd:isDiv x y q r):EuS A B y r:=by
 rcases h with ⟨hx,hy⟩ | ⟨hx,hy,hl⟩ | h | h
 ·have hd':=hd.of hx hy (peq.refl q) (peq.refl r)
  by_cases hl:plen B≤plen A
  ·exact .inr (.inr (.inl ((Eu.start hd' hl).congr hy.symm (peq.refl r))))
  ·have h0:isDiv A B [] A:=⟨fun i=>by rw[a1_,pmul,dp_];grind,by omega⟩
   exact .inr (.inl ⟨hy,(hd'.same h0).2,by omega⟩)
 ·have hd':=hd.of hx hy (peq.refl q) (peq.refl r)
  exact .inr (.inr (.inr ((Eu.start hd' (by omega)).congr hy.symm (peq.refl r))))
 ·exact .inr (.inr (.inl (h.step hd)))
 ·exact .inr (.inr (.inr (h.step hd)))
theorem size_pw{s nn:Nat}(hn:2 * nn+1≤4294967296):nn * ((2 * (nn * pw s)+1) ^ nn * pw s)≤pw ((s+1) * (nn+1)):=by
 have h1:2 * (nn * pw s)+1≤pw (s+1):=by
  have h2:=ex_ s
  have h3:(2 * nn+1) * pw s≤pw 1 * pw s:=Nat.mul_le_mul_right _ (by rw[k1_];exact hn)
  rw[←d7_,Nat.add_comm 1 s,Nat.add_mul,Nat.mul_assoc,Nat.one_mul] at h3
  omega
 have h4:(2 * (nn * pw s)+1) ^ nn≤pw ((s+1) * nn):=by
  have h5:pw ((s+1) * nn)=pw (s+1) ^ nn:=Nat.pow_mul _ _ _
  rw[h5]
  exact Nat.pow_le_pow_left h1 nn
 have h6:nn≤pw 1:=by rw[k1_];omega
 refine Nat.le_trans (Nat.mul_le_mul h6 (Nat.mul_le_mul_right _ h4)) ?_
 rw[←d7_,←d7_]
 exact b1_ (by rw[Nat.mul_add];omega)
theorem EuS.small{A B x y:List Rat}{c:Rat}{s:Nat}(h:EuS A B x y)(hc:c≠0)(hA:Ints (af_ c A) (pw s))(hB:Ints (af_ c B) (pw s))(hn:2 * (plen A+plen B)+1≤4294967296) :
 ∃k:Rat,k≠0∧Ints (af_ k y) (pw ((s+1) * (plen A+plen B+1))):=by
 have hs:pw s≤pw ((s+1) * (plen A+plen B+1)):=b1_ (by rw[Nat.mul_add];omega)
 rcases h with ⟨_,hy⟩ | ⟨_,hy,_⟩ | h | h
 ·exact⟨c,hc,(hB.mono hs).congr (bs_ c hy.symm)⟩
 ·exact⟨c,hc,(hA.mono hs).congr (bs_ c hy.symm)⟩
 ·obtain⟨k,h1,h2⟩:=h.size hc hA hB
  exact⟨k,h1,h2.mono (size_pw hn)⟩
 ·obtain⟨k,h1,h2⟩:=h.size hc hB hA
  rw[Nat.add_comm (plen B) (plen A)] at h2
  exact⟨k,h1,h2.mono (size_pw hn)⟩
structure GcdZ (A B x y:LR_) (S E:Nat):Prop where
 st:EuS A B x y
 xf:∃(k:Rat) (P:LR_),k≠0∧Ints P (pw S)∧peq x (af_ k P)∧qlen k+(x.length+y.length) * (S+3)≤E
 yf:∃(l:Rat) (Z:LR_),l≠0∧Ints Z (pw S)∧peq y (af_ l Z)∧qlen l+2 * y.length * (S+3)≤E
theorem d2_{c:Rat}(hc:c≠0)(a:LR_):peq a (af_ (1 / c) (af_ c a)):=fun i=>by
 rw[ai_,ai_]
 have:1 / c * c=1:=Rat.div_mul_cancel hc
 grind
theorem GcdZ.start{A B:List Rat}{c s S E:Nat}(hc:0 < c)(hcs:c≤pw s)(hA:Ints (af_ ((c:Nat):Rat) A) (pw s))(hB:Ints (af_ ((c:Nat):Rat) B) (pw s))(hS:s≤S){n:Nat}(hnA:plen A≤n)(hnB:plen B≤n)(hE:s+2+2 * n * (S+3)≤E):GcdZ A B (aj_ A) (aj_ B) S E:=by
 have hc0:((c:Nat):Rat)≠0:=fun e=>by have h9:c=0:=Rat.natCast_inj.1 (e.trans rfl);omega
 have hq:qlen (1 / ((c:Nat):Rat))≤s+2:=dg_ (z:=1) (t:=s) (by have:=ex_ s;omega) hcs
 have hk0:1 / ((c:Nat):Rat)≠0:=fun e=>by
  have h1:1 / ((c:Nat):Rat) * ((c:Nat):Rat)=1:=Rat.div_mul_cancel hc0
  rw[e,Rat.zero_mul] at h1
  exact absurd h1 (by decide)
 have e1:(aj_ A).length=plen A:=rfl
 have e2:(aj_ B).length=plen B:=rfl
 refine ⟨.inl ⟨ar_ A,ar_ B⟩,⟨_,_,hk0,hA.mono (b1_ hS),(ar_ A).trans (d2_ hc0 A),?_⟩,⟨_,_,hk0,hB.mono (b1_ hS),(ar_ B).trans (d2_ hc0 B),?_⟩⟩
 ·rw[e1,e2]
  have:(plen A+plen B) * (S+3)≤2 * n * (S+3):=Nat.mul_le_mul_right _ (by omega)
  omega
 ·rw[e2]
  have:2 * plen B * (S+3)≤2 * n * (S+3):=Nat.mul_le_mul_right _ (by omega)
  omega
theorem GcdZ.step{A B x y q r:List Rat}{c:Rat}{s S E:Nat}(h:GcdZ A B x y S E)(hc:c≠0)(hA:Ints (af_ c A) (pw s))(hB:Ints (af_ c B) (pw s))(hn:2 * (plen A+plen B)+1≤4294967296)(hS:(s+1) * (plen A+plen B+1)=S)
 (hx:aj_ x=x) (hy:aj_ y=y) (h0:0 < y.length) (hd:isDiv x y q r) (hr:aj_ r=r):GcdZ A B y r S E:=by
 obtain⟨k,P,k0,kP,kx,kE⟩:=h.xf
 obtain⟨l,Z,l0,lZ,ly,lE⟩:=h.yf
 obtain⟨z,hl⟩:=DivL.of hy h0 lZ ly
 have hst:=h.st.step hd
 have hm:r.length < y.length:=by
  have:=hd.2
  rwa [az_ hr,az_ hy] at this
 have hyE:qlen l+(y.length+r.length) * (S+3)≤E:=by
  have:(y.length+r.length) * (S+3)≤2 * y.length * (S+3):=Nat.mul_le_mul_right _ (by omega)
  omega
 refine ⟨hst,⟨l,Z,l0,lZ,ly,hyE⟩,?_⟩
 by_cases hr0:r.length=0
 ·refine ⟨1,[],by decide,fun i=>⟨0,rfl,Nat.zero_le _⟩,fun i=>?_,?_⟩
  ·rw[List.eq_nil_of_length_eq_zero hr0];rfl
  ·have h1:qlen 1≤2:=ci_ (z:=1) (by decide)
   have h2:1 * (S+3)≤2 * y.length * (S+3):=Nat.mul_le_mul_right _ (by omega)
   rw[hr0]
   omega
 ·obtain⟨Q',R',t,hf,hlt⟩:=jp_ (A:=x) (n:=x.length) (s:=S) (k:=k) hl (Nat.le_refl _) x.length [] (aj_ x) 0 (by rw[hx];exact Nat.le_refl _) (DivZ.start rfl (by rw[hx];exact Nat.le_refl _) kP kx)
  have hdv:isDiv x y Q' R':=⟨hf.sum,by rw[az_ hf.right,az_ hy];exact hlt⟩
  have hrR:r=R':=by rw[←hr,←hf.right];exact bj_ (hd.same hdv).2
  subst hrR
  obtain⟨m,m0,mI⟩:=hst.small hc hA hB hn
  rw[hS] at mI
  obtain⟨w,w1,w2⟩:=mI (r.length - 1)
  obtain⟨y0,T,y1,y2,y3,y4⟩:=hf.form
  obtain⟨v,v1,v2⟩:=y3 (r.length - 1)
  have e1:=y4 (r.length - 1)
  rw[ai_,ai_,v1] at e1
  rw[ai_] at w1
  have hrt:=fh_ hr (by omega)
  have hco:co r (r.length - 1)=r.getD (r.length - 1) 0:=rfl
  rw[hco] at e1 w1
  have w0:w≠0:=fun e=>by
   rw[e] at w1
   rcases Rat.mul_eq_zero.1 (w1.trans rfl) with g | g
   ·exact m0 g
   ·exact hrt g
  have yw:y0 * w≠0:=fun e=>by rcases Int.mul_eq_zero.1 e with g | g;exact y1 g;exact w0 g
  have em:1 / m=k * ((v:Rat) / ((y0 * w:Int):Rat)):=by
   have f1:1 / m * m=1:=Rat.div_mul_cancel m0
   have f2:(v:Rat) / ((y0 * w:Int):Rat) * ((y0 * w:Int):Rat)=(v:Rat):=Rat.div_mul_cancel (ej_ yw)
   generalize (v:Rat) / ((y0 * w:Int):Rat)=f at *
   rw[Rat.intCast_mul] at f2
   generalize 1 / m=g at *
   generalize r.getD (r.length - 1) 0=rt at *
   have f3:(y0:Rat) * (w:Rat) * (g - k * f)=0:=by grind
   rcases Rat.mul_eq_zero.1 f3 with a | a
   ·rcases Rat.mul_eq_zero.1 a with a | a
    ·exact absurd a (ej_ y1)
    ·exact absurd a (ej_ w0)
   ·grind
  have hq:qlen (1 / m)≤qlen k+(S+t * (S+1))+3:=by
   rw[em]
   have q1:=cu_ k ((v:Rat) / ((y0 * w:Int):Rat))
   have q2:=c3_ (z:=v) (y:=y0 * w) (t:=S+t * (S+1)) v2 (by
    rw[Int.natAbs_mul]
    refine Nat.le_trans (Nat.mul_le_mul y2 w2) ?_
    rw[←d7_]
    exact b1_ (by rw[Nat.mul_add];omega))
   omega
  refine ⟨1 / m,af_ m r,fun e=>?_,mI,d2_ m0 r,?_⟩
  ·have f1:1 / m * m=1:=Rat.div_mul_cancel m0
   rw[e,Rat.zero_mul] at f1
   exact absurd f1 (by decide)
  ·have hw:=hf.way
   have p1:S+t * (S+1)+3≤(t+1) * (S+3):=by
    rw[Nat.add_mul,Nat.one_mul]
    have:t * (S+1)≤t * (S+3):=Nat.mul_le_mul_left t (by omega)
    omega
   have p2:(t+1) * (S+3)+2 * r.length * (S+3)≤(x.length+y.length) * (S+3):=by
    rw[←Nat.add_mul]
    exact Nat.mul_le_mul_right _ (by omega)
   omega
theorem GcdWay.new{A B:List Rat}{c s S E:Nat}(hc:0 < c)(hcs:c≤pw s)(hA:Ints (af_ ((c:Nat):Rat) A) (pw s))(hB:Ints (af_ ((c:Nat):Rat) B) (pw s))(hn:2 * (plen A+plen B)+1≤4294967296)(hS:(s+1) * (plen A+plen B+1)=S){n:Nat}(hnA:plen A≤n)(hnB:plen B≤n)(hE:s+2+2 * n * (S+3)≤E) :
 GcdWay A B (3 * E) (S+2) (fun x y=>GcdZ A B x y S E) where
 start:=GcdZ.start hc hcs hA hB (by rw[←hS,Nat.mul_add];omega) hnA hnB hE
 div:=fun {x y} h hx hy h0=>by
  obtain⟨k,P,k0,kP,kx,kE⟩:=h.xf
  obtain⟨l,Z,l0,lZ,ly,lE⟩:=h.yf
  obtain⟨z,hl⟩:=DivL.of hy h0 lZ ly
  have a1:x.length * (S+3)+y.length * (S+3)=(x.length+y.length) * (S+3):=(Nat.add_mul _ _ _).symm
  have a2:1 * (S+3)≤y.length * (S+3):=Nat.mul_le_mul_right _ h0
  have a3:2 * y.length * (S+3)=y.length * (S+3)+y.length * (S+3):=by rw[Nat.mul_assoc];omega
  have a4:(x.length+1 - y.length) * (S+1)≤x.length * (S+3):=Nat.mul_le_mul (by omega) (by omega)
  have hint:∀{k:Rat} {P:List Rat},Ints P (pw S)→∀i,qlen (co (af_ k P) i)≤qlen k+S+3:=fun {k P} hP i=>by
   obtain⟨u,u1,u2⟩:=hP i
   rw[ai_,u1]
   have g1:=cu_ k (u:Rat)
   have g2:=c3_ (z:=u) (y:=1) (t:=S) u2 (by have:=ex_ S;omega)
   have g3:(u:Rat) / ((1:Int):Rat)=(u:Rat):=by
    have:((1:Int):Rat)=1:=rfl
    rw[this,Rat.div_def,Rat.inv_eq_of_mul_eq_one (Rat.mul_one 1),Rat.mul_one]
   rw[g3] at g2
   omega
  refine ⟨qlen l+S+3,_,cc_ fun i=>by rw[ly i];exact hint lZ i,cc_ fun i=>?_,DivWay.new (n:=x.length) (s:=S) hl (by rw[hx];exact Nat.le_refl _) kP kx (Nat.le_refl _) ?_⟩
  ·rw[kx i]
   have:=hint (k:=k) kP i
   omega
  ·omega
 step:=fun {x y q r} h hx hy h0 hd hr=>by
  have hc0:((c:Nat):Rat)≠0:=fun e=>by have h9:c=0:=Rat.natCast_inj.1 (e.trans rfl);omega
  exact h.step hc0 hA hB hn hS hx hy h0 hd hr
 over:=fun {x} h hx h0=>by
  obtain⟨k,P,k0,kP,kx,kE⟩:=h.xf
  have a1:1 * (S+3)≤(x.length+([]:LR_).length) * (S+3):=Nat.mul_le_mul_right _ (by simp;omega)
  obtain⟨w,w1,w2⟩:=kP (x.length - 1)
  have e1:=kx (x.length - 1)
  rw[ai_,w1] at e1
  have hxt:=fh_ hx h0
  have ht:x.getD (x.length - 1) 0=k * (w:Rat):=e1
  have w0:w≠0:=fun e=>by
   rw[e] at ht
   exact hxt (ht.trans (Rat.mul_zero k))
  have hw:=ej_ w0
  have f0:k * (w:Rat)≠0:=fun e=>by rcases Rat.mul_eq_zero.1 e with g | g;exact k0 g;exact hw g
  have hone:∀{u:Int},u.natAbs≤pw S→qlen (k * (u:Rat))≤qlen k+S+3:=fun {u} u2=>by
   have g1:=cu_ k (u:Rat)
   have g2:=c3_ (z:=u) (y:=1) (t:=S) u2 (by have:=ex_ S;omega)
   have g3:(u:Rat) / ((1:Int):Rat)=(u:Rat):=by
    have:((1:Int):Rat)=1:=rfl
    rw[this,Rat.div_def,Rat.inv_eq_of_mul_eq_one (Rat.mul_one 1),Rat.mul_one]
   rw[g3] at g2
   omega
  rw[ht]
  have hfi:∀(i:Nat) (u:Int),co P i=(u:Rat)→co (aj_ (af_ (1 / (k * (w:Rat))) x)) i=(u:Rat) / (w:Rat):=fun i u u1=>by
   rw[fk_,ai_,kx i,ai_,u1]
   have f1:1 / (k * (w:Rat)) * (k * (w:Rat))=1:=Rat.div_mul_cancel f0
   have f2:(u:Rat) / (w:Rat) * (w:Rat)=(u:Rat):=Rat.div_mul_cancel hw
   generalize 1 / (k * (w:Rat))=a at *
   generalize (u:Rat) / (w:Rat)=b at *
   have f4:(w:Rat) * (a * (k * (u:Rat)) - b)=0:=by grind
   rcases Rat.mul_eq_zero.1 f4 with g | g
   ·exact absurd g hw
   ·grind
  refine ⟨?_,cc_ fun i=>?_,cc_ fun i=>?_,w,w0,Nat.le_trans w2 (b1_ (by omega)),fun i=>?_⟩
  ·have g1:=g9_ (k * (w:Rat))
   rw[Rat.div_def,Rat.one_mul]
   have g2:=hone w2
   omega
  ·obtain⟨u,u1,u2⟩:=kP i
   rw[kx i,ai_,u1]
   have:=hone u2
   omega
  ·obtain⟨u,u1,u2⟩:=kP i
   rw[hfi i u u1]
   exact c3_ u2 w2
  ·obtain⟨u,u1,u2⟩:=kP i
   refine ⟨u,?_,Nat.le_trans u2 (b1_ (by omega))⟩
   rw[ai_,hfi i u u1,Rat.mul_comm]
   exact Rat.div_mul_cancel hw
def on_ (A B:LR_) (K:Nat) (w:World) (e:Ending) (w':World):Prop:=∃(a:OA_) (n c:Nat) (g:LR_),e=.returned (.slice a n c)∧Rw w' a n c g∧isGcd A B g∧aj_ g=g∧(∀x∈g,qlen x≤K)∧(∃z:Int,z≠0∧z.natAbs≤pw K∧Ints (af_ (z:Rat) g) (pw K))∧Below w.heap.size w w'
structure Rf (u v:LR_):Prop where
 ur:aj_ u=u
 vr:aj_ v=v
 v0:plen v≠0
 one:co v (plen v - 1)=1
 cop:∃s t,peq (padd (pmul s u) (pmul t v)) [1]
def isF (U V u v:LR_):Prop:=Rf u v∧(plen V=0→u=[])∧(plen V≠0→peq (pmul u V) (pmul v U))
theorem dl_{a b c:List Rat}(hc:plen c≠0)(h:peq (pmul a c) (pmul b c)):peq a b:=by
 have h1:peq (pmul (psub a b) c) []:=ak_ fun x=>by
  have:=ae_ x h
  rw[ac_,ac_] at this
  rw[ac_,bg_]
  show _=(0:Rat)
  grind
 have h2:plen (psub a b)=0:=(m9_ (am_ h1)).resolve_right hc
 intro i
 have:=plen_zero.1 h2 i
 rw[dh_] at this
 grind
theorem Rf.eval_cop{u v:List Rat}(h:Rf u v):∃s t:LR_,∀x,an_ x s * an_ x u+an_ x t * an_ x v=1:=by
 obtain⟨s,t,hst⟩:=h.cop
 refine ⟨s,t,fun x=>?_⟩
 have h1:=ae_ x hst
 rwa [ap_,ac_,ac_,ba_] at h1
theorem Rf.times{u v u' v':List Rat}(h:Rf u v)(he:peq (pmul u v') (pmul v u')):∃K,peq u' (pmul u K)∧peq v' (pmul v K):=by
 obtain⟨s,t,hst⟩:=h.eval_cop
 refine ⟨padd (pmul s u') (pmul t v'),ak_ fun x=>?_,ak_ fun x=>?_⟩
 ·have h1:=hst x
  have h2:=ae_ x he
  rw[ac_,ac_] at h2
  rw[ac_,ap_,ac_,ac_];grind
 ·have h1:=hst x
  have h2:=ae_ x he
  rw[ac_,ac_] at h2
  rw[ac_,ap_,ac_,ac_];grind
theorem Rf.same{u v u' v':List Rat}(h:Rf u v)(h':Rf u' v')(he:peq (pmul u v') (pmul v u')):u'=u∧v'=v:=by
 obtain⟨K,hu,hv⟩:=h.times he
 obtain⟨K',_,hv'⟩:=h'.times (u':=u) (v':=v) (ak_ fun x=>by
  have h2:=ae_ x he
  rw[ac_,ac_] at h2 ⊢
  grind)
 have hK:plen K≠0:=fun e=>h'.v0 (by rw[am_ hv,am_ (au_ (peq.refl v) (ce_ e)),am_ (dk_ v)];rfl)
 have hK':plen K'≠0:=fun e=>h.v0 (by rw[am_ hv',am_ (au_ (peq.refl v') (ce_ e)),am_ (dk_ v')];rfl)
 have l1:=am_ hv
 have l2:=am_ hv'
 rw[cy_ h.v0 hK] at l1
 rw[cy_ h'.v0 hK'] at l2
 have hK1:plen K=1:=by have:=h.v0;have:=h'.v0;omega
 have ht:=(em_ (a:=v) (b:=K) (m:=plen v - 1) (n:=0) (by have:=h.v0;omega) (by omega)).2
 rw[h.one,Nat.add_zero,←hv,Rat.one_mul] at ht
 have h1:=h'.one
 rw[show plen v' - 1=plen v - 1 by omega,ht] at h1
 have hKe:peq K [1]:=fun i=>by
  cases i with
  | zero=>exact h1
  | succ i=>rw[bq_ (a:=K) (by omega),bm_,dp_]
 constructor
 ·rw[←h'.ur,←h.ur]
  refine bj_ (hu.trans (ak_ fun x=>?_))
  rw[ac_,ae_ x hKe,ba_];grind
 ·rw[←h'.vr,←h.vr]
  refine bj_ (hv.trans (ak_ fun x=>?_))
  rw[ac_,ae_ x hKe,ba_];grind
theorem rf_nought:Rf [] [1]:=⟨by decide,by decide +kernel,by rw[d6_ (by decide)];decide,by rw[d6_ (by decide)];rfl,[],[1],ak_ fun x=>by
 rw[ap_,ac_,ac_,ba_];show 0 * _+_=_;grind⟩
theorem Rf.none{v:List Rat}(h:Rf [] v):v=[1]:=(rf_nought.same h (ak_ fun x=>by rw[ac_,ac_];show 0 * _=_ * 0;grind)).2
theorem isF.same{U V u v u' v':List Rat}(h:isF U V u v)(h':isF U V u' v'):u'=u∧v'=v:=by
 obtain⟨h1,h2,h3⟩:=h
 obtain⟨g1,g2,g3⟩:=h'
 by_cases hV:plen V=0
 ·have e1:=h2 hV
  have e2:=g2 hV
  subst e1
  subst e2
  exact⟨rfl,by rw[h1.none,g1.none]⟩
 ·refine h1.same g1 (dl_ hV (ak_ fun x=>?_))
  have e1:=ae_ x (h3 hV)
  have e2:=ae_ x (g3 hV)
  rw[ac_,ac_] at e1 e2
  rw[ac_,ac_,ac_,ac_];grind
theorem isF.cross{U V U' V' u v:List Rat}(h:isF U V u v)(hV:plen V≠0)(hV':plen V'≠0)(he:peq (pmul U V') (pmul U' V)):isF U' V' u v:=by
 refine ⟨h.1,fun e=>absurd e hV',fun _=>dl_ hV (ak_ fun x=>?_)⟩
 have e1:=ae_ x (h.2.2 hV)
 have e2:=ae_ x he
 rw[ac_,ac_] at e1 e2
 rw[ac_,ac_,ac_,ac_];grind
theorem isF.of{U V U' V' u v:List Rat}(h:isF U V u v)(hU:peq U U')(hV:peq V V'):isF U' V' u v:=
 ⟨h.1,fun e=>h.2.1 (by rw[am_ hV];exact e),fun e=>(au_ (peq.refl u) hV.symm).trans ((h.2.2 (by rw[am_ hV];exact e)).trans (au_ (peq.refl v) hU))⟩
theorem Rf.isF{u v:List Rat}(h:Rf u v):isF u v u v:=⟨h,fun e=>absurd e h.v0,fun _=>hg_ u v⟩
theorem isF.zero{U V u v:List Rat}(h:isF U V u v)(hU:plen U=0∨plen V=0):u=[]∧v=[1]:=by
 have hu:u=[]:=by
  by_cases hV:plen V=0
  ·exact h.2.1 hV
  ·have h1:=h.2.2 hV
   have h2:plen (pmul u V)=0:=am_ (h1.trans ((au_ (peq.refl v) (ce_ (hU.resolve_right hV))).trans (dk_ v)))
   have h3:=(m9_ h2).resolve_right hV
   rw[←h.1.ur]
   exact List.eq_nil_of_length_eq_zero h3
 subst hu
 exact⟨rfl,h.1.none⟩
theorem lc_{U V:List Rat}(hU:plen U=0∨plen V=0):isF U V [] [1]:=by
 refine ⟨rf_nought,fun _=>rfl,fun hV=>?_⟩
 have h1:=ce_ (hU.resolve_right hV)
 exact ak_ fun x=>by rw[ac_,ac_,ae_ x h1];show 0 * _=_ * 0;grind
theorem isF_gcd{U V g x y:List Rat}{c:Rat}(hg:isGcd U V g)(hV:plen V≠0)(hx:peq U (pmul x g))(hy:peq V (pmul y g))(hc:c=1 / co y (plen y - 1)) :
 isF U V (aj_ (af_ c x)) (aj_ (af_ c y)):=by
 have hg0:plen g≠0:=fun e=>hV (by rw[am_ hy,am_ (au_ (peq.refl y) (ce_ e)),am_ (dk_ y)];rfl)
 have hy0:plen y≠0:=fun e=>hV (by rw[am_ hy,am_ (au_ (ce_ e) (peq.refl g))];rfl)
 have ht:=cv_ (a:=y) (n:=plen y - 1) (by omega)
 have hcy:c * co y (plen y - 1)=1:=by rw[hc];exact Rat.div_mul_cancel ht
 have hc0:c≠0:=fun e=>by rw[e,Rat.zero_mul] at hcy;exact absurd hcy (by decide)
 have hpl:plen (aj_ (af_ c y))=plen y:=by rw[am_ (ar_ _),a9_ hc0]
 obtain⟨s,t,hst⟩:=hg.1.2.2
 have hb:peq (padd (pmul s x) (pmul t y)) [1]:=dl_ hg0 (ak_ fun z=>by
  have e1:=ae_ z hst
  have e2:=ae_ z hx
  have e3:=ae_ z hy
  rw[ap_,ac_,ac_] at e1
  rw[ac_] at e2 e3
  rw[ac_,ac_,ba_,ap_,ac_,ac_];grind)
 refine ⟨⟨a2_ _,a2_ _,by rw[hpl];exact hy0,by rw[hpl,fk_,ai_];exact hcy,af_ (1 / c) s,af_ (1 / c) t,ak_ fun z=>?_⟩,fun e=>absurd e hV,fun _=>ak_ fun z=>?_⟩
 ·have e1:=ae_ z hb
  have e4:1 / c * c=1:=Rat.div_mul_cancel hc0
  rw[ap_,ac_,ac_,ba_] at e1
  rw[ap_,ac_,ac_,al_,al_,ae_ z (ar_ _),ae_ z (ar_ _),al_,al_,ba_]
  generalize 1 / c=d at *
  grind
 ·have e2:=ae_ z hx
  have e3:=ae_ z hy
  rw[ac_] at e2 e3
  rw[ac_,ac_,ae_ z (ar_ _),ae_ z (ar_ _),al_,al_,e2,e3];grind
theorem isF.whole{U V u v:List Rat}(h:isF U V u v)(hV:plen V≠0):∃G,peq U (pmul u G)∧peq V (pmul v G)∧plen G≠0:=by
 obtain⟨K,h1,h2⟩:=h.1.times (h.2.2 hV)
 exact⟨K,h1,h2,fun e=>hV (by rw[am_ h2,am_ (au_ (peq.refl v) (ce_ e)),am_ (dk_ v)];rfl)⟩
theorem isF.lens{U V u v:List Rat}(h:isF U V u v)(hV:plen V≠0):plen u≤plen U∧plen v≤plen V:=by
 obtain⟨G,h1,h2,h3⟩:=h.whole hV
 have l2:=am_ h2
 rw[cy_ h.1.v0 h3] at l2
 by_cases hu:plen u=0
 ·exact⟨by omega,by omega⟩
 ·have l1:=am_ h1
  rw[cy_ hu h3] at l1
  exact⟨by omega,by omega⟩
theorem isF.small{U V u v:List Rat}{c:Rat}{s:Nat}(h:isF U V u v)(hV:plen V≠0)(hc:c≠0)(hU:Ints (af_ c U) (pw s))(hVI:Ints (af_ c V) (pw s))(hn:2 * (plen u+plen v)+1≤4294967296) :
 ∃k:Int,k≠0∧k.natAbs≤pw ((s+1) * (plen u+plen v))∧Ints (af_ (k:Rat) u) (pw ((s+1) * (plen u+plen v)))∧Ints (af_ (k:Rat) v) (pw ((s+1) * (plen u+plen v))):=by
 obtain⟨G,h1,h2,h3⟩:=h.whole hV
 obtain⟨k,k0,ku,kv⟩:=mw_ hc hU hVI h1 h2 h3 h.1.v0 h.1.cop
 have hX:(2 * ((plen u+plen v) * pw s)+1) ^ (plen u+plen v - 1)≤pw ((s+1) * (plen u+plen v)):=by
  have p1:2 * ((plen u+plen v) * pw s)+1≤pw (s+1):=by
   have p2:=ex_ s
   have p3:(2 * (plen u+plen v)+1) * pw s≤pw 1 * pw s:=Nat.mul_le_mul_right _ (by rw[k1_];exact hn)
   rw[←d7_,Nat.add_comm 1 s,Nat.add_mul,Nat.mul_assoc,Nat.one_mul] at p3
   omega
  have p5:pw ((s+1) * (plen u+plen v))=pw (s+1) ^ (plen u+plen v):=Nat.pow_mul _ _ _
  rw[p5]
  exact Nat.le_trans (Nat.pow_le_pow_left p1 _) (Nat.pow_le_pow_right (ex_ _) (by omega))
 have ku2:=ku.mono hX
 have kv2:=kv.mono hX
 obtain⟨z,z1,z2⟩:=kv2 (plen v - 1)
 rw[ai_,h.1.one,Rat.mul_one] at z1
 subst z1
 exact⟨z,fun e=>k0 (by rw[e];rfl),z2,ku2,kv2⟩
theorem isF.value{U V u v:List Rat}(h:isF U V u v){x:Rat}(hx:an_ x V≠0):an_ x v≠0∧an_ x u * an_ x V=an_ x v * an_ x U:=by
 have hV:plen V≠0:=fun e=>hx (by rw[ae_ x (ce_ e)];rfl)
 obtain⟨G,h1,h2,_⟩:=h.whole hV
 have e2:=ae_ x h2
 rw[ac_] at e2
 refine ⟨fun e=>hx (by rw[e2,e];grind),?_⟩
 have:=ae_ x (h.2.2 hV)
 rwa [ac_,ac_] at this
def dup (u v:LR_):List Rat:=psub (pmul (be_ u) v) (pmul u (be_ v))
theorem kc_{U V u v:List Rat}(h:peq (pmul u V) (pmul v U)):peq (pmul (dup u v) (pmul V V)) (pmul (dup U V) (pmul v v)):=ak_ fun x=>by
 have h1:=ae_ x h
 have h2:=ae_ x (((e3_ u V).symm.trans (g4_ h)).trans (e3_ v U))
 unfold dup
 simp only[bg_,ap_,ac_] at h1 h2 ⊢
 grind
theorem da_{v:List Rat}(h:plen v≠0):plen (pmul v v)≠0:=by rw[cy_ h h];omega
theorem cn_{v w:List Rat}(h:plen v≠0)(k:plen w≠0):plen (pmul v w)≠0:=by rw[cy_ h k];omega
theorem d_sum{u1 v1 u2 v2 u v du dv a1 b1 a2 b2:List Rat}(hs:isF (padd (pmul u1 v2) (pmul u2 v1)) (pmul v1 v2) u v)(n1:plen v1≠0)(n2:plen v2≠0)(hd:isF (dup u v) (pmul v v) du dv)
 (h1:isF (dup u1 v1) (pmul v1 v1) a1 b1) (h2:isF (dup u2 v2) (pmul v2 v2) a2 b2):isF (padd (pmul a1 b2) (pmul a2 b1)) (pmul b1 b2) du dv:=by
 have n12:=cn_ n1 n2
 have c1:=kc_ (hs.2.2 n12)
 have e1:=h1.2.2 (da_ n1)
 have e2:=h2.2.2 (da_ n2)
 refine hd.cross (da_ hs.1.v0) (cn_ h1.1.v0 h2.1.v0) (dl_ (da_ n12) (ak_ fun x=>?_))
 have c2:=ae_ x c1
 have f1:=ae_ x e1
 have f2:=ae_ x e2
 have g1:=ae_ x (e3_ u1 v2)
 have g2:=ae_ x (e3_ u2 v1)
 have g3:=ae_ x (e3_ v1 v2)
 have g4:=ae_ x (k2_ (pmul u1 v2) (pmul u2 v1))
 unfold dup at c2 f1 f2
 simp only[bg_,ap_,ac_] at c2 f1 f2 g1 g2 g3 g4
 unfold dup
 simp only[bg_,ap_,ac_]
 rw[g4,g1,g2,g3] at c2
 generalize an_ x (be_ u1)=p1 at *
 generalize an_ x (be_ v1)=q1 at *
 generalize an_ x (be_ u2)=p2 at *
 generalize an_ x (be_ v2)=q2 at *
 generalize an_ x u1=U1 at *
 generalize an_ x v1=V1 at *
 generalize an_ x u2=U2 at *
 generalize an_ x v2=V2 at *
 generalize an_ x a1=A1 at *
 generalize an_ x b1=B1 at *
 generalize an_ x a2=A2 at *
 generalize an_ x b2=B2 at *
 generalize an_ x (be_ u) * an_ x v - an_ x u * an_ x (be_ v)=X at *
 generalize an_ x v=V at *
 have hN:(p1 * V2+U1 * q2+(p2 * V1+U2 * q1)) * (V1 * V2) - (U1 * V2+U2 * V1) * (q1 * V2+V1 * q2)=V2 * V2 * (p1 * V1 - U1 * q1)+V1 * V1 * (p2 * V2 - U2 * q2):=by grind
 rw[hN] at c2
 generalize p1 * V1 - U1 * q1=D1 at *
 generalize p2 * V2 - U2 * q2=D2 at *
 have k1:B1 * B2 * (V2 * V2 * D1+V1 * V1 * D2)=(A1 * B2+A2 * B1) * (V1 * V2 * (V1 * V2)):=by
  have k2:B1 * B2 * (V2 * V2 * D1+V1 * V1 * D2)=B2 * (V2 * V2) * (B1 * D1)+B1 * (V1 * V1) * (B2 * D2):=by grind
  rw[k2,←f1,←f2];grind
 have k3:X * (B1 * B2) * (V1 * V2 * (V1 * V2))=B1 * B2 * (X * (V1 * V2 * (V1 * V2))):=by grind
 rw[k3,c2]
 have k4:B1 * B2 * ((V2 * V2 * D1+V1 * V1 * D2) * (V * V))=(B1 * B2 * (V2 * V2 * D1+V1 * V1 * D2)) * (V * V):=by grind
 rw[k4,k1];grind
theorem d_prod{u1 v1 u2 v2 u v du dv a1 b1 a2 b2:List Rat}(hs:isF (pmul u1 u2) (pmul v1 v2) u v)(n1:plen v1≠0)(n2:plen v2≠0)(hd:isF (dup u v) (pmul v v) du dv)
 (h1:isF (dup u1 v1) (pmul v1 v1) a1 b1) (h2:isF (dup u2 v2) (pmul v2 v2) a2 b2) :
 isF (padd (pmul (pmul a1 u2) (pmul v1 b2)) (pmul (pmul u1 a2) (pmul b1 v2))) (pmul (pmul b1 v2) (pmul v1 b2)) du dv:=by
 have n12:=cn_ n1 n2
 have c1:=kc_ (hs.2.2 n12)
 have e1:=h1.2.2 (da_ n1)
 have e2:=h2.2.2 (da_ n2)
 refine hd.cross (da_ hs.1.v0) (cn_ (cn_ h1.1.v0 n2) (cn_ n1 h2.1.v0)) (dl_ (da_ n12) (ak_ fun x=>?_))
 have c2:=ae_ x c1
 have f1:=ae_ x e1
 have f2:=ae_ x e2
 have g1:=ae_ x (e3_ u1 u2)
 have g3:=ae_ x (e3_ v1 v2)
 unfold dup at c2 f1 f2
 simp only[bg_,ap_,ac_] at c2 f1 f2 g1 g3
 unfold dup
 simp only[bg_,ap_,ac_]
 rw[g1,g3] at c2
 generalize an_ x (be_ u1)=p1 at *
 generalize an_ x (be_ v1)=q1 at *
 generalize an_ x (be_ u2)=p2 at *
 generalize an_ x (be_ v2)=q2 at *
 generalize an_ x u1=U1 at *
 generalize an_ x v1=V1 at *
 generalize an_ x u2=U2 at *
 generalize an_ x v2=V2 at *
 generalize an_ x a1=A1 at *
 generalize an_ x b1=B1 at *
 generalize an_ x a2=A2 at *
 generalize an_ x b2=B2 at *
 generalize an_ x (be_ u) * an_ x v - an_ x u * an_ x (be_ v)=X at *
 generalize an_ x v=V at *
 have hN:(p1 * U2+U1 * p2) * (V1 * V2) - U1 * U2 * (q1 * V2+V1 * q2)=U2 * V2 * (p1 * V1 - U1 * q1)+U1 * V1 * (p2 * V2 - U2 * q2):=by grind
 rw[hN] at c2
 generalize p1 * V1 - U1 * q1=D1 at *
 generalize p2 * V2 - U2 * q2=D2 at *
 have k1:B1 * B2 * (V1 * V2) * (U2 * V2 * D1+U1 * V1 * D2)=(A1 * U2 * (V1 * B2)+U1 * A2 * (B1 * V2)) * (V1 * V2 * (V1 * V2)):=by
  have k2:B1 * B2 * (V1 * V2) * (U2 * V2 * D1+U1 * V1 * D2)=B2 * (V1 * V2) * U2 * V2 * (B1 * D1)+B1 * (V1 * V2) * U1 * V1 * (B2 * D2):=by grind
  rw[k2,←f1,←f2];grind
 have k3:X * (B1 * V2 * (V1 * B2)) * (V1 * V2 * (V1 * V2))=B1 * B2 * (V1 * V2) * (X * (V1 * V2 * (V1 * V2))):=by grind
 rw[k3,c2]
 have k4:B1 * B2 * (V1 * V2) * ((U2 * V2 * D1+U1 * V1 * D2) * (V * V))=(B1 * B2 * (V1 * V2) * (U2 * V2 * D1+U1 * V1 * D2)) * (V * V):=by grind
 rw[k4,k1];grind
structure Fz (U V:LR_) (h s:Nat):Prop where
 lu:U.length≤h
 lv:V.length≤h
 form:∃c:Nat,0 < c∧c≤pw s∧Ints (af_ ((c:Nat):Rat) U) (pw s)∧Ints (af_ ((c:Nat):Rat) V) (pw s)
theorem Fz.mono{U V:List Rat}{h s h' s':Nat}(f:Fz U V h s)(hh:h≤h')(hs:s≤s'):Fz U V h' s':=by
 obtain⟨a,b,c,c1,c2,c3,c4⟩:=f
 exact⟨Nat.le_trans a hh,Nat.le_trans b hh,c,c1,Nat.le_trans c2 (b1_ hs),c3.mono (b1_ hs),c4.mono (b1_ hs)⟩
theorem Fz.swap{U V:List Rat}{h s:Nat}(f:Fz U V h s):Fz V U h s:=⟨f.lv,f.lu,by obtain⟨c,c1,c2,c3,c4⟩:=f.form;exact⟨c,c1,c2,c4,c3⟩⟩
theorem Fz.qlen{U V:List Rat}{h s:Nat}(f:Fz U V h s):∀q∈U,Go.Proofs.YtocebjbjnfammaaGreat.qlen q≤s+2:=by
 obtain⟨c,c1,c2,c3,c4⟩:=f.form
 refine cc_ fun i=>?_
 obtain⟨z,z1,z2⟩:=c3 i
 have hc0:((c:Nat):Rat)≠0:=fun e=>by have h9:c=0:=Rat.natCast_inj.1 (e.trans rfl);omega
 have e:co U i=(z:Rat) / ((c:Nat):Rat):=by
  have f2:(z:Rat) / ((c:Nat):Rat) * ((c:Nat):Rat)=(z:Rat):=Rat.div_mul_cancel hc0
  rw[ai_] at z1
  generalize (z:Rat) / ((c:Nat):Rat)=b at *
  have f4:((c:Nat):Rat) * (co U i - b)=0:=by grind
  rcases Rat.mul_eq_zero.1 f4 with g | g
  ·exact absurd g hc0
  ·grind
 rw[e]
 exact dg_ z2 c2
theorem Fz.of{U V:List Rat}{N n m h s:Nat}(hU:∀q∈U,Go.Proofs.YtocebjbjnfammaaGreat.qlen q≤N)(hV:∀q∈V,Go.Proofs.YtocebjbjnfammaaGreat.qlen q≤N)(hn:U.length≤n)(hm:V.length≤m)(hh:n≤h)(hh':m≤h)(hs:N * (n+m)≤s):Fz U V h s:=by
 obtain⟨c,h1,h2,h3⟩:=ints_of (U ++ V) (fun q hq=>(List.mem_append.1 hq).elim (hU q) (hV q))
 have hl:pw (N * (U ++ V).length)≤pw s:=b1_ (Nat.le_trans (Nat.mul_le_mul_left N (by rw[List.length_append];omega)) hs)
 refine ⟨by omega,by omega,c,h1,Nat.le_trans h2 hl,fun i=>?_,fun i=>?_⟩
 ·by_cases hi:i < U.length
  ·obtain⟨z,g1,g2⟩:=h3 i
   refine ⟨z,?_,Nat.le_trans g2 hl⟩
   rw[←g1,ai_,ai_]
   congr 1
   unfold co
   rw[List.getD_eq_getElem?_getD,List.getD_eq_getElem?_getD,List.getElem?_append_left hi]
  ·exact⟨0,by rw[dx_ (by rw[a6_];omega)];rfl,Nat.zero_le _⟩
 ·obtain⟨z,g1,g2⟩:=h3 (U.length+i)
  refine ⟨z,?_,Nat.le_trans g2 hl⟩
  rw[←g1,ai_,ai_]
  congr 1
  unfold co
  rw[List.getD_eq_getElem?_getD,List.getD_eq_getElem?_getD,List.getElem?_append_right (by omega),Nat.add_sub_cancel_left]
theorem Ints.abs{a:List Rat}{k:Int}{H:Nat}(h:Ints (af_ (k:Rat) a) H):Ints (af_ ((k.natAbs:Nat):Rat) a) H:=by
 rcases Int.natAbs_eq k with e | e
 ·have h2:(k:Rat)=((k.natAbs:Nat):Rat):=by rw[←Rat.intCast_natCast,←e]
  rwa [←h2]
 ·have h2:((k.natAbs:Nat):Rat) = -(k:Rat):=by
   have h3:(k:Rat) = -((k.natAbs:Nat):Rat):=by rw[←Rat.intCast_natCast,←Rat.intCast_neg,←e]
   rw[h3];grind
  rw[h2]
  exact h.neg
theorem Fz.right{U V u v:List Rat}{h s:Nat}(f:Fz U V h s)(hf:isF U V u v)(h1:1≤h)(h2:h≤1000000):Fz u v h ((s+1) * (2 * h)):=by
 have p1:1≤pw ((s+1) * (2 * h)):=ex_ _
 by_cases hV:plen V=0
 ·obtain⟨rfl,rfl⟩:=hf.zero (.inr hV)
  refine ⟨by simp,by simpa using h1,1,by decide,p1,fun i=>⟨0,rfl,Nat.zero_le _⟩,fun i=>?_⟩
  cases i with
  | zero=>exact⟨1,by rw[ai_,show co [1] 0=(1:Rat) from rfl,Rat.mul_one];rfl,p1⟩
  | succ i=>exact⟨0,by rw[ai_,bm_,dp_,Rat.mul_zero];rfl,Nat.zero_le _⟩
 ·obtain⟨c,c1,c2,c3,c4⟩:=f.form
  obtain⟨l1,l2⟩:=hf.lens hV
  have l3:=a4_ U
  have l4:=a4_ V
  have l5:=az_ hf.1.ur
  have l6:=az_ hf.1.vr
  have hl:=f.lu
  have hl':=f.lv
  obtain⟨k,k0,k1,k2,k3⟩:=hf.small hV (c:=((c:Nat):Rat)) (fun e=>by have h9:c=0:=Rat.natCast_inj.1 (e.trans rfl);omega) c3 c4 (by omega)
  have hp:pw ((s+1) * (plen u+plen v))≤pw ((s+1) * (2 * h)):=b1_ (Nat.mul_le_mul_left _ (by omega))
  exact⟨by omega,by omega,k.natAbs,by omega,Nat.le_trans k1 hp,k2.abs.mono hp,k3.abs.mono hp⟩
theorem prod_pw{n X a b:Nat}(hn:n≤1000000)(h:X≤pw a * pw b):n * X≤pw (a+b+1):=by
 rw[d7_ (a+b) 1,d7_,k1_,Nat.mul_comm]
 exact Nat.mul_le_mul h (by omega)
theorem Ints.prod{a b:List Rat}{c d:Nat}{s t:Nat}(h:Ints (af_ ((c:Nat):Rat) a) (pw s))(k:Ints (af_ ((d:Nat):Rat) b) (pw t))(hn:a.length≤1000000):Ints (af_ (((c * d:Nat)):Rat) (pmul a b)) (pw (s+t+1)):=by
 refine Ints.congr (Ints.mono (k.mul h) (prod_pw (by rw[a6_];exact hn) (Nat.le_refl _))) (ak_ fun x=>?_)
 rw[ac_,al_,al_,al_,ac_,Rat.natCast_mul];grind
theorem Fz.add{u1 v1 u2 v2:List Rat}{h1 h2 r1 r2:Nat}(f:Fz u1 v1 h1 r1)(g:Fz u2 v2 h2 r2)(hh:h1≤1000000)(hh':h2≤1000000):Fz (padd (pmul u1 v2) (pmul u2 v1)) (pmul v1 v2) (h1+h2) (r1+r2+2):=by
 obtain⟨a1,a2,c,c1,c2,c3,c4⟩:=f
 obtain⟨b1,b2,d,d1,d2,d3,d4⟩:=g
 have p1:=cg_ u1 v2
 have p2:=cg_ u2 v1
 have p3:=cg_ v1 v2
 have p4:=g1_ (pmul u1 v2) (pmul u2 v1)
 have e1:=c3.prod d4 (by omega)
 have e2:=d3.prod c4 (by omega)
 have e3:=c4.prod d4 (by omega)
 rw[Nat.mul_comm d c,Nat.add_comm r2 r1] at e2
 refine ⟨by omega,by omega,c * d,Nat.mul_pos c1 d1,?_,Ints.congr (Ints.mono (e1.add e2) (two_pw _)) (ak_ fun x=>?_),e3.mono (b1_ (by omega))⟩
 ·refine Nat.le_trans (Nat.mul_le_mul c2 d2) ?_
  rw[←d7_];exact b1_ (by omega)
 ·rw[ap_,al_,al_,al_,ap_];grind
theorem Fz.mul{u1 v1 u2 v2:List Rat}{h1 h2 r1 r2:Nat}(f:Fz u1 v1 h1 r1)(g:Fz u2 v2 h2 r2)(hh:h1≤1000000):Fz (pmul u1 u2) (pmul v1 v2) (h1+h2) (r1+r2+2):=by
 obtain⟨a1,a2,c,c1,c2,c3,c4⟩:=f
 obtain⟨b1,b2,d,d1,d2,d3,d4⟩:=g
 have p1:=cg_ u1 u2
 have p3:=cg_ v1 v2
 refine ⟨by omega,by omega,c * d,Nat.mul_pos c1 d1,?_,(c3.prod d3 (by omega)).mono (b1_ (by omega)),(c4.prod d4 (by omega)).mono (b1_ (by omega))⟩
 refine Nat.le_trans (Nat.mul_le_mul c2 d2) ?_
 rw[←d7_];exact b1_ (by omega)
theorem Ints.diff{a:List Rat}{c s:Nat}(h:Ints (af_ ((c:Nat):Rat) a) (pw s))(hn:a.length≤1000000):Ints (af_ ((c:Nat):Rat) (be_ a)) (pw (s+1)):=fun i=>by
 obtain⟨z,z1,z2⟩:=h (i+1)
 rw[ai_] at z1
 rcases Nat.lt_or_ge (i+1) a.length with hi | hi
 ·refine ⟨((i+1:Nat):Int) * z,?_,?_⟩
  ·rw[ai_,c7_,Rat.intCast_mul,Rat.intCast_natCast,←z1];grind
  ·rw[Int.natAbs_mul,Int.natAbs_natCast,d7_,k1_,Nat.mul_comm]
   exact Nat.mul_le_mul z2 (by omega)
 ·exact⟨0,by rw[ai_,c7_,dx_ hi,Rat.mul_zero,Rat.mul_zero];rfl,Nat.zero_le _⟩
theorem Fz.dup{u v:List Rat}{h r:Nat}(f:Fz u v h r)(hh:h≤1000000):Fz (Go.Proofs.YtocebjbjnfammaaGreat.dup u v) (pmul v v) (h+h) (r+r+3):=by
 obtain⟨a1,a2,c,c1,c2,c3,c4⟩:=f
 have p1:=cg_ (be_ u) v
 have p2:=cg_ u (be_ v)
 have p3:=cg_ v v
 have p4:=g1_ (pmul (be_ u) v) (af_ (-1) (pmul u (be_ v)))
 have p5:=f8_ u
 have p6:=f8_ v
 rw[a6_] at p4
 have e1:=(c3.diff (by omega)).prod c4 (by omega)
 have e2:=c3.prod (c4.diff (by omega)) (by omega)
 have e3:=c4.prod c4 (by omega)
 rw[show r+1+r+1=r+r+2 by omega] at e1
 rw[show r+(r+1)+1=r+r+2 by omega] at e2
 refine ⟨Nat.le_trans p4 (by omega),by omega,c * c,Nat.mul_pos c1 c1,?_,Ints.congr (Ints.mono (e1.add e2.neg) (two_pw _)) (ak_ fun x=>?_),e3.mono (b1_ (by omega))⟩
 ·refine Nat.le_trans (Nat.mul_le_mul c2 c2) ?_
  rw[←d7_];exact b1_ (by omega)
 ·unfold Go.Proofs.YtocebjbjnfammaaGreat.dup
  rw[ap_,al_,al_,al_,bg_];grind
open Go.ChangeShapes Go.WideShapes Go.ChangeAt Go.RowKit Go.Deep
def k9_ (l:List Value):Prop:=∀u∈l,∃(a:OA_) (n c:Nat),u=.slice a n c
def holdsSlices (w:World) (v:Value):Prop:=∀g,v.ownBlock=some g→∀(j:Nat) u,w.cell? ⟨g,j,none⟩=some u→∃(a:OA_) (n c:Nat),u=.slice a n c
theorem f9_(w:World):holdsSlices w (.slice none 0 0):=fun g h=>by simp[Value.ownBlock] at h
theorem holdsSlices.clean{w:World}{v:Value}(h:holdsSlices w v):Go.Proofs.YtocebjbjnfammaaGreat.clean w v:=fun g hg j k hc=>by
 obtain⟨a,n,c,e⟩:=h g hg j _ hc
 cases e
theorem c2_{w:World}{g:Nat}{n c:Nat}{cur:Array Value}{e:TypeId}{fr:Nat × Nat}(hg:w.heap[g]? = some (.cells cur e fr))(h:k9_ cur.toList):holdsSlices w (.slice (some ⟨g,0,none⟩) n c):=by
 intro g' hg' j u hc
 simp[Value.ownBlock] at hg'
 subst hg'
 rw[cell_of_row w g j cur e fr hg] at hc
 have hm:u∈cur:=Array.mem_of_getElem? hc
 exact h _ (by simpa using hm)
def anew (w:World) (v v':Value):Prop:=∀j,v'.ownBlock=some j→v.ownBlock=some j∨w.heap.size≤j
structure Fresh (w:World) (v v':Value):Prop where
 held:holdsSlices w v
 new:anew w v v'
theorem Fxs.aside{w w':World}{v:Value}{a:Option Addr}{n c:Nat}{L:List Fx}(h:Fxs w a n c L)(hc:holdsSlices w v)(hg:w.grownBy w' v.ownBlock):Fxs w' a n c L:=by
 refine ⟨h.1,h.2.1,h.2.2.1,h.2.2.2.1,fun x hx=>Fx.aside (h.ok hx) hc.clean hg,h.2.2.2.2.2.imp id fun ⟨b,off,e,hcl⟩=>⟨b,off,e,fun j hj=>?_⟩⟩
 obtain⟨h1,h2,h3⟩:=hcl j hj
 have hlt:b < w.heap.size:=by
  rcases Nat.lt_or_ge b w.heap.size with h9 | h9
  ·exact h9
  ·rw[World.cell?,Array.getElem?_eq_none h9] at h1;cases h1
 have hne:some b≠v.ownBlock:=fun e2=>by
  obtain⟨_,_,_,e3⟩:=hc b e2.symm _ _ h1
  cases e3
 have hk:=hg.block b hlt hne
 exact⟨(World.cell?_of_block hk).trans h1,(World.cell?_of_block hk).trans h2,(World.cell?_of_block hk).trans h3⟩
structure Sx where
 a:Option Addr
 n:Nat
 c:Nat
def Sx.val (x:Sx):Value:=.slice x.a x.n x.c
def Sx.zero:Sx:=⟨none,0,0⟩
def OwnF (w:World) (base:Nat) (e:TypeId) (v:Value) (LL:List (List Fx)):Prop:=
 ∃XS:List Sx,w.ownsRow base e 1 v XS.length (XS.map Sx.val)∧holdsSlices w v∧XS.length=LL.length∧∀j,j < LL.length→Fxs w (XS.getD j Sx.zero).a (XS.getD j Sx.zero).n (XS.getD j Sx.zero).c (LL.getD j [])
theorem OwnF.nil(w:World)(base:Nat)(e:TypeId):OwnF w base e (.slice none 0 0) []:=⟨[],World.ownsRow_nil _ _ _ _,f9_ _,rfl,fun j hj=>by simp at hj⟩
theorem OwnF.later{w w':World}{base:Nat}{e:TypeId}{v:Value}{LL:List (List Fx)}(h:OwnF w base e v LL)(hb:Below w.heap.size w w'):OwnF w' base e v LL:=by
 obtain⟨XS,⟨h1,h2⟩,h3,h4,h5⟩:=h
 refine ⟨XS,?_,?_,h4,fun j hj=>(h5 j hj).later hb⟩
 ·rcases h2 with ⟨rfl,h0⟩ | ⟨g,cap,cur,rfl,hbg,hg,q4,q5,q6,q7⟩
  ·exact⟨h1,.inl ⟨rfl,h0⟩⟩
  ·exact⟨h1,.inr ⟨g,cap,cur,rfl,hbg,ag_ hg hb,q4,q5,q6,q7⟩⟩
 ·rcases h2 with ⟨rfl,h0⟩ | ⟨g,cap,cur,rfl,hbg,hg,q4,q5,q6,q7⟩
  ·exact f9_ _
  ·intro g2 hg2 j u hu
   simp[Value.ownBlock] at hg2
   subst hg2
   rw[World.cell?_of_block (a:=⟨g,j,none⟩) (hb.block g (Array.getElem?_eq_some_iff.1 hg).1)] at hu
   exact h3 g rfl j u hu
theorem OwnF.l_ {w w':World}{x0 x1 x2 x3}(h:OwnF w x0 x1 x2 x3)(b:Below w.heap.size w w'):Hid (OwnF w' x0 x1 x2 x3):=Lib.hid (h.later b)
theorem OwnF.base{w:World}{base:Nat}{e:TypeId}{v:Value}{LL:List (List Fx)}(h:OwnF w base e v LL)(k:Nat)(hk:v.ownBlock=some k):base≤k:=by
 obtain⟨XS,h1,_⟩:=h
 rcases h1.2 with ⟨rfl,_⟩ | ⟨g,cap,cur,rfl,hbg,_⟩
 ·simp[Value.ownBlock] at hk
 ·simp[Value.ownBlock] at hk
  omega
theorem OwnF.out{w:World}{base:Nat}{e:TypeId}{v:Value}{LL:List (List Fx)}(h:OwnF w base e v LL):∃(a:OA_) (cap:Nat),v=.slice a LL.length cap∧Fxss w a LL.length cap LL:=by
 obtain⟨XS,h1,_,h4,h5⟩:=h
 rcases h1.2 with ⟨rfl,h0⟩ | ⟨g,cap,cur,rfl,hbg,hg,hnc,hcm,hcs,htake⟩
 ·have h0':LL.length=0:=by omega
  refine ⟨none,0,by rw[h0'],rfl,by omega,by omega,fun _=>rfl,.inl h0'⟩
 ·refine ⟨_,cap,by rw[h4],rfl,by omega,by unfold maxLen at hcm;omega,fun e=>(by cases e),.inr ⟨g,0,rfl,fun j hj=>⟨_,_,_,?_,h5 j hj⟩⟩⟩
  have hj':j < XS.length:=by omega
  have h9:=h1.cells (g:=g) rfl j (XS.getD j Sx.zero).val (by rw[List.getElem?_map,List.getElem?_eq_getElem hj',List.getD_eq_getElem?_getD,List.getElem?_eq_getElem hj'];rfl)
  rw[add_plain] at h9
  exact h9
end Go.Proofs.YtocebjbjnfammaaGreat
