import Derived.Test.YtocebjbjnfammaaGreatVG8
import Derived.Test.YtocebjbjnfammaaGreatVG5
import Derived.Test.YtocebjbjnfammaaGreatVG7
import Derived.Test.YtocebjbjnfammaaGreatVG3
import Derived.Deep.RegionHeld3
import Derived.Deep.CutRange
import Derived.Deep.RegionWith
import Derived.Test.YtocebjbjnfammaaGreatVG1
set_option maxRecDepth 4096
set_option maxHeartbeats 16000000
namespace Go.Proofs.YtocebjbjnfammaaGreat
open Go.RowKit
def Cpr (p q:LR_):Prop:=∃s t:LR_,∀x,al_ x s * al_ x p+al_ x t * al_ x q=1
theorem Cpr.sum{p q:List Rat}(h:Cpr p q):∃s t,peq (padd (pmul s p) (pmul t q)) [1]:=by
 obtain⟨s,t,h⟩:=h
 exact⟨s,t,ao_ fun x=>by rw[av_,ac_,ac_,bo_];exact h x⟩
theorem Rf.coprime{u v:List Rat}(h:Rf u v):Cpr u v:=h.eval_cop
theorem Cpr.symm{p q:List Rat}(h:Cpr p q):Cpr q p:=by
 obtain⟨s,t,h⟩:=h
 exact⟨t,s,fun x=>by have:=h x;grind⟩
theorem Cpr.mul{p q r:List Rat}(h:Cpr p q)(k:Cpr p r):Cpr p (pmul q r):=by
 obtain⟨s,t,h⟩:=h
 obtain⟨s',t',k⟩:=k
 refine ⟨padd (pmul (pmul s s') p) (padd (pmul (pmul s t') r) (pmul (pmul t q) s')),pmul t t',fun x=>?_⟩
 have h1:=h x
 have k1:=k x
 have e:(al_ x s * al_ x p+al_ x t * al_ x q) * (al_ x s' * al_ x p+al_ x t' * al_ x r)=1:=by rw[h1,k1];decide +kernel
 simp only[av_,ac_]
 rw[←e];grind
theorem Cpr.part{p q k r:List Rat}(h:Cpr p q)(e:peq q (pmul k r)):Cpr p k∧Cpr p r:=by
 obtain⟨s,t,h⟩:=h
 refine ⟨⟨s,pmul t r,fun x=>?_⟩,⟨s,pmul t k,fun x=>?_⟩⟩
 ·have h1:=h x
  have e1:=ak_ x e
  rw[ac_] at e1 ⊢
  rw[e1] at h1
  rw[←h1];grind
 ·have h1:=h x
  have e1:=ak_ x e
  rw[ac_] at e1 ⊢
  rw[e1] at h1
  rw[←h1];grind
theorem Cpr.of{p q p' q':List Rat}(h:Cpr p q)(hp:peq p p')(hq:peq q q'):Cpr p' q':=by
 obtain⟨s,t,h⟩:=h
 exact⟨s,t,fun x=>by rw[←ak_ x hp,←ak_ x hq];exact h x⟩
theorem Cpr.shift{p q p' k:List Rat}(h:Cpr p q)(e:peq p' (padd p (pmul k q))):Cpr p' q:=by
 obtain⟨s,t,h⟩:=h
 refine ⟨s,psub t (pmul s k),fun x=>?_⟩
 have h1:=h x
 have e1:=ak_ x e
 rw[av_,ac_] at e1
 rw[e1,b2_,ac_,←h1];grind
theorem cop_one(p:LR_):Cpr p [1]:=⟨[],[1],fun x=>by rw[bo_];show 0 * _+_=_;grind⟩
theorem Cpr.pow{p q:List Rat}(h:Cpr p q):∀k,Cpr p (ppow q k)
 | 0=>cop_one p
 | k+1=>(h.pow k).mul h
theorem gcd_cop{U V g x y:List Rat}(hg:common U V g)(hg0:plen g≠0)(hx:peq U (pmul x g))(hy:peq V (pmul y g)):Cpr x y:=by
 obtain⟨s,t,hst⟩:=hg.2.2
 have hb:peq (padd (pmul s x) (pmul t y)) [1]:=fj_ hg0 (ao_ fun z=>by
  have e1:=ak_ z hst
  have e2:=ak_ z hx
  have e3:=ak_ z hy
  rw[av_,ac_,ac_] at e1
  rw[ac_] at e2 e3
  rw[ac_,ac_,bo_,av_,ac_,ac_];grind)
 exact⟨s,t,fun z=>by have:=ak_ z hb;rwa [av_,ac_,ac_,bo_] at this⟩
def Mon1 (p:LR_):Prop:=plen p≠0∧co p (plen p - 1)=1
theorem Mon1.of{p q:List Rat}(h:Mon1 p)(e:peq p q):Mon1 q:=⟨by rw[←am_ e];exact h.1,by rw[←am_ e,←e];exact h.2⟩
theorem Rf.monic{u v:List Rat}(h:Rf u v):Mon1 v:=⟨h.v0,h.one⟩
theorem nt_:Mon1 [1]:=⟨by rw[el_ (by decide)];decide,by rw[el_ (by decide)];rfl⟩
theorem Mon1.mul{p q:List Rat}(h:Mon1 p)(k:Mon1 q):Mon1 (pmul p q):=by
 have h0:=h.1
 have k0:=k.1
 obtain⟨e1,e2⟩:=em_ (a:=p) (b:=q) (m:=plen p - 1) (n:=plen q - 1) (by omega) (by omega)
 refine ⟨by omega,?_⟩
 rw[e1,Nat.add_sub_cancel,e2,h.2,k.2];decide +kernel
theorem Mon1.left{p a g:List Rat}(h:Mon1 p)(hg:Mon1 g)(e:peq p (pmul a g)):Mon1 a:=by
 have ha:plen a≠0:=fun e0=>h.1 (by rw[am_ e,am_ (ax_ (cm_ e0) (peq.refl g))];rfl)
 have g0:=hg.1
 obtain⟨e1,e2⟩:=em_ (a:=a) (b:=g) (m:=plen a - 1) (n:=plen g - 1) (by omega) (by omega)
 refine ⟨ha,?_⟩
 have h2:=(h.of e).2
 rw[e1,Nat.add_sub_cancel,e2,hg.2,Rat.mul_one] at h2
 exact h2
theorem Mon1.pow{p:List Rat}(h:Mon1 p):∀k,Mon1 (ppow p k)
 | 0=>nt_
 | k+1=>(h.pow k).mul h
theorem isGcd.monic{U V g:List Rat}(h:isGcd U V g)(hg:plen g≠0):Mon1 g:=⟨hg,h.2 _ (by omega)⟩
theorem Rf.of_cop{u v U V:List Rat}(h:Cpr u v)(hv:Mon1 v)(eu:peq U u)(ev:peq V v)(nu:ai_ U=U)(nv:ai_ V=V):Rf U V:=
 ⟨nu,nv,(hv.of ev.symm).1,(hv.of ev.symm).2,(h.of eu.symm ev.symm).sum⟩
structure PartP (U V:LR_) (h K:Nat) (x y g:LR_):Prop where
 nx:ai_ x=x
 ny:ai_ y=y
 ng:ai_ g=g
 dx:peq U (pmul x g)
 dy:peq V (pmul y g)
 gcd:isGcd U V g
 sz:Fz g g h K
theorem PartP.g0{U V x y g:List Rat}{h K:Nat}(p:PartP U V h K x y g)(hV:plen V≠0):plen g≠0:=fun e=>hV (by rw[am_ p.dy,am_ (ax_ (peq.refl y) (cm_ e)),am_ (dl_ y)];rfl)
theorem PartP.Cpr{U V x y g:List Rat}{h K:Nat}(p:PartP U V h K x y g)(hV:plen V≠0):Go.Proofs.YtocebjbjnfammaaGreat.Cpr x y:=gcd_cop p.gcd.1 (p.g0 hV) p.dx p.dy
theorem PartP.rf{U V x y g:List Rat}{h K:Nat}(p:PartP U V h K x y g)(hV:Mon1 V):Rf x y:=by
 have hg:=p.gcd.monic (p.g0 hV.1)
 exact Rf.of_cop (p.Cpr hV.1) (hV.left hg p.dy) (peq.refl _) (peq.refl _) p.nx p.ny
theorem PartP.isF{U V x y g:List Rat}{h K:Nat}(p:PartP U V h K x y g)(hV:Mon1 V):isF U V x y:=by
 refine ⟨p.rf hV,fun e=>absurd e hV.1,fun _=>ao_ fun z=>?_⟩
 have e1:=ak_ z p.dx
 have e2:=ak_ z p.dy
 rw[ac_] at e1 e2
 rw[ac_,ac_,e1,e2];grind
theorem Fz.pair{A A' B B':List Rat}{h k s t:Nat}(f:Fz A A' h s)(g:Fz B B' k t):Fz A B (max h k) (s+t):=by
 obtain⟨a1,a2,c,c1,c2,c3,c4⟩:=f
 obtain⟨b1,b2,d,d1,d2,d3,d4⟩:=g
 refine ⟨by omega,by omega,c * d,Nat.mul_pos c1 d1,by rw[eg_];exact Nat.mul_le_mul c2 d2,fun i=>?_,fun i=>?_⟩
 ·obtain⟨z,e1,e2⟩:=c3 i
  refine ⟨(d:Int) * z,?_,?_⟩
  ·rw[ah_] at e1 ⊢
   rw[Rat.intCast_mul,Rat.intCast_natCast,←e1,Rat.natCast_mul];grind
  ·rw[Int.natAbs_mul,Int.natAbs_natCast,eg_,Nat.mul_comm]
   exact Nat.mul_le_mul e2 d2
 ·obtain⟨z,e1,e2⟩:=d3 i
  refine ⟨(c:Int) * z,?_,?_⟩
  ·rw[ah_] at e1 ⊢
   rw[Rat.intCast_mul,Rat.intCast_natCast,←e1,Rat.natCast_mul];grind
  ·rw[Int.natAbs_mul,Int.natAbs_natCast,eg_]
   exact Nat.mul_le_mul c2 e2
theorem Fz.same{U V U' V':List Rat}{h s h':Nat}(f:Fz U V h s)(eU:peq U U')(eV:peq V V')(l:U'.length≤h')(m:V'.length≤h'):Fz U' V' h' s:=by
 obtain⟨a,b,c,c1,c2,c3,c4⟩:=f
 exact⟨l,m,c,c1,c2,c3.congr (br_ _ eU),c4.congr (br_ _ eV)⟩
theorem Fz.norms{U V:List Rat}{h s:Nat}(f:Fz U V h s):Fz (ai_ U) (ai_ V) h s:=f.same (au_ U).symm (au_ V).symm (Nat.le_trans (bf_ U) f.lu) (Nat.le_trans (bf_ V) f.lv)
theorem isF_add{u v x y x1 y1 g up up2 g2 q D:List Rat}{h k K K':Nat}(hu:Rf u v)(hx:Rf x y)(p:PartP v y h K x1 y1 g)(hup:peq up (padd (pmul u y1) (pmul x x1)))(p2:PartP up g k K' up2 g2 q)(hD:peq D (pmul (pmul x1 y1) g2))(nD:ai_ D=D) :
 isF (padd (pmul u y) (pmul x v)) (pmul v y) up2 D:=by
 have mv:=hu.monic
 have my:=hx.monic
 have mg:=p.gcd.monic (p.g0 my.1)
 have mx1:=mv.left mg p.dx
 have my1:=my.left mg p.dy
 have mq:=p2.gcd.monic (p2.g0 mg.1)
 have mg2:=mg.left mq p2.dy
 have c1:Cpr up x1:=by
  have a1:Cpr u x1:=(hu.coprime.part p.dx).1
  have a2:Cpr (pmul u y1) x1:=(a1.symm.mul (p.Cpr my.1)).symm
  exact a2.shift hup
 have c2:Cpr up y1:=by
  have a1:Cpr x y1:=(hx.coprime.part p.dy).1
  have a2:Cpr (pmul x x1) y1:=(a1.symm.mul (p.Cpr my.1).symm).symm
  exact a2.shift (k:=u) (hup.trans (ao_ fun z=>by rw[av_,av_];grind))
 have c3:Cpr up2 x1:=(c1.symm.part p2.dx).1.symm
 have c4:Cpr up2 y1:=(c2.symm.part p2.dx).1.symm
 have c5:=p2.Cpr mg.1
 refine ⟨Rf.of_cop ((c3.mul c4).mul c5) ((mx1.mul my1).mul mg2) (peq.refl _) hD p2.nx nD,fun e=>absurd e (mv.mul my).1,fun _=>ao_ fun z=>?_⟩
 have e1:=ak_ z p.dx
 have e2:=ak_ z p.dy
 have e3:=ak_ z hup
 have e4:=ak_ z p2.dx
 have e5:=ak_ z p2.dy
 have e6:=ak_ z hD
 simp only[av_,ac_] at e1 e2 e3 e4 e5 e6 ⊢
 rw[e1,e2,e6]
 have e7:al_ z up2 * al_ z q=al_ z u * al_ z y1+al_ z x * al_ z x1:=by rw[←e4];exact e3
 rw[e5]
 generalize al_ z up2=U at *
 generalize al_ z q=Q at *
 generalize al_ z u=A at *
 generalize al_ z x=B at *
 generalize al_ z x1=C at *
 generalize al_ z y1=E at *
 generalize al_ z g2=G at *
 have e8:(A * (E * (G * Q))+B * (C * (G * Q))) * (C * E * G)=(A * E+B * C) * (G * Q * (C * E * G)):=by grind
 first
  | (have e9:U * (C * (G * Q) * (E * (G * Q)))=(U * Q) * (G * Q * (C * E * G)):=by grind
     rw[e9,e8,e7])
  | grind
theorem isF_mul{u v x y u1 y1 g x1 v1 g' A D:List Rat}{h k K K':Nat}(hu:Rf u v)(hx:Rf x y)(p:PartP u y h K u1 y1 g)(p':PartP x v k K' x1 v1 g')(hA:peq A (pmul u1 x1))(nA:ai_ A=A)(hD:peq D (pmul v1 y1))(nD:ai_ D=D) :
 isF (pmul u x) (pmul v y) A D:=by
 have mv:=hu.monic
 have my:=hx.monic
 have mg:=p.gcd.monic (p.g0 my.1)
 have mg':=p'.gcd.monic (p'.g0 mv.1)
 have my1:=my.left mg p.dy
 have mv1:=mv.left mg' p'.dy
 have c1:Cpr u1 v1:=((hu.coprime.part p'.dy).1.symm.part p.dx).1.symm
 have c2:Cpr x1 y1:=((hx.coprime.part p.dy).1.symm.part p'.dx).1.symm
 have c3:=p.Cpr my.1
 have c4:=p'.Cpr mv.1
 refine ⟨Rf.of_cop ((c1.mul c3).symm.mul (c4.mul c2).symm).symm (mv1.mul my1) hA hD nA nD,fun e=>absurd e (mv.mul my).1,fun _=>ao_ fun z=>?_⟩
 have e1:=ak_ z p.dx
 have e2:=ak_ z p.dy
 have e3:=ak_ z p'.dx
 have e4:=ak_ z p'.dy
 have e5:=ak_ z hA
 have e6:=ak_ z hD
 simp only[ac_] at e1 e2 e3 e4 e5 e6 ⊢
 rw[e1,e2,e3,e4,e5,e6];grind
theorem inv_room{z:Int}{S:Nat}(h:z.natAbs≤pw S):qlen (1 / (z:Rat))≤S+2:=by
 have h1:((1:Int):Rat)=1:=rfl
 rw[←h1]
 exact cy_ (by have:=et_ S;omega) h
theorem nat_nz{c:Nat}(h:0 < c):((c:Nat):Rat)≠0:=fun e=>by have h9:c=0:=Rat.natCast_inj.1 (e.trans rfl);omega
def LstQuo (A g:LR_) (w:World) (e:Ending) (w':World):Prop:=∃(a:OA_) (n c:Nat) (q:LR_) (b:OA_) (m d:Nat),e=.returned (.tuple #[.slice a n c,.slice b m d,.bool true])∧Rw w' a n c q∧ai_ q=q∧peq A (pmul q g)∧Below w.heap.size w w'
def jg_ (U V:LR_) (h K:Nat) (w:World) (e:Ending) (w':World):Prop:=∃(a:OA_) (n c:Nat) (x:LR_) (b:OA_) (m d:Nat) (y:LR_) (a':OA_) (n' c':Nat) (g:LR_),e=.returned (.tuple #[.slice a n c,.slice b m d,.slice a' n' c'])∧Rw w' a n c x∧Rw w' b m d y∧Rw w' a' n' c' g∧PartP U V h K x y g∧Below w.heap.size w w'
theorem qr_(S:PolySaid){w:World}{a b:Option Addr}{n c m d h s S0:Nat}{A g:List Rat}{cc:Nat}{z:Int}(hA:Pv w a n c A 1900000000)(hg:Rw w b m d g)(hn:n≤h)(hm:m≤h)(hh:h≤50)(c0:0 < cc)(cs:cc≤pw s)(cA:Ints (ag_ ((cc:Nat):Rat) A) (pw s))(hsS:s≤S0)(gq:∀q∈g,qlen q≤1900000000)(g0:plen g≠0)(z0:z≠0)(zs:z.natAbs≤pw (S0+2))(zg:Ints (ag_ (z:Rat) g) (pw (S0+2)))(hd:pdvd g A)(hT:(4 * h+24) * (S0+5)≤1900000000) :
 Calls Tryz.prog 107 #[.slice a n c,.slice b m d] w (LstQuo A g w):=by
 obtain⟨L,h1,rfl,h3⟩:=hA
 obtain⟨M,k1,k2,k3⟩:=hg.thin gq
 subst k2
 have hq1:qlen (1 / ((cc:Nat):Rat))≤s+2:=dc_ (z:=1) (t:=s) (by have:=et_ s;omega) cs
 have hq2:qlen (1 / (z:Rat))≤S0+2+2:=inv_room zs
 have hb:4 * (qlen (1 / ((cc:Nat):Rat))+qlen (1 / (z:Rat))+(n+4) * (S0+2+3))≤(4 * h+24) * (S0+5):=by
  have e1:(n+4) * (S0+2+3)≤(h+4) * (S0+5):=Nat.mul_le_mul (by omega) (by omega)
  have e2:(4 * h+24) * (S0+5)=4 * ((h+4) * (S0+5))+8 * (S0+5):=by rw[show 4 * h+24=4 * (h+4)+8 by omega,Nat.add_mul,Nat.mul_assoc]
  omega
 refine (S.div_more a n c L b m d M _ _ _ _ (S0+2) _ w h1 k1 (by omega) (by omega) h3 k3 (cA.mono (b9_ (by omega))) zg (d0_ (nat_nz c0) _) (d0_ (eb_ z0) _) hb hT (hd_ g0)).mono fun e w' h9=>?_
 obtain⟨a1,n1,c1,q,a2,n2,c2,r,g1,g2,g3,g4,g5,g6,g7,g8,g9⟩:=h9
 have hr:=hd.rest g4
 exact⟨a1,n1,c1,q,a2,n2,c2,g1,g2,g5,g4.1.trans (ao_ fun x=>by rw[av_,ak_ x (cm_ hr)];show _+(0:Rat)=_;grind),g9⟩
theorem fp_(S:PolySaid)(a:OA_)(n c:Nat)(U:LR_)(b:OA_)(m d:Nat)(V:LR_)(h s:Nat)(w:World)(hU:Pv w a n c U 1900000000)(hV:Pv w b m d V 1900000000)(hz:Fz U V h s)(hk:Pok h s)(hV0:plen V≠0) :
 Calls Tryz.prog 62 #[.slice a n c,.slice b m d] w (jg_ U V h ((s+1) * (2 * h+1)+2) w):=by
 obtain⟨hh,hT⟩:=hk
 have hn:n≤h:=by rw[←hU.len];exact hz.lu
 have hm:m≤h:=by rw[←hV.len];exact hz.lv
 obtain⟨cc,c0,cs,cU,cV⟩:=hz.form
 obtain⟨S1,hS1⟩:∃S1,(s+1) * (2 * h+1)=S1:=⟨_,rfl⟩
 rw[hS1] at hT ⊢
 obtain⟨S0,hS0⟩:∃S0,(s+1) * (plen U+plen V+1)=S0:=⟨_,rfl⟩
 have lU:=a6_ U
 have lV:=a6_ V
 have hS01:S0≤S1:=by
  rw[←hS0,←hS1]
  exact Nat.mul_le_mul_left _ (by have:=hz.lu;have:=hz.lv;omega)
 have hsS:s≤S0:=by rw[←hS0,Nat.mul_add,Nat.mul_one];omega
 have hT0:(4 * h+24) * (S0+5)≤1900000000:=Nat.le_trans (Nat.mul_le_mul_left _ (by omega)) hT
 have hsm:24 * (S0+5)≤1900000000:=Nat.le_trans (Nat.mul_le_mul_right _ (by omega)) hT0
 have hGC:∀w':World,Pv w' a n c U 1900000000→Pv w' b m d V 1900000000→Calls Tryz.prog 106 #[.slice a n c,.slice b m d] w' (os_ U V (S0+2) w'):=fun w' g1 g2=>by
  obtain⟨L,h1,h2,h3⟩:=g1
  obtain⟨M,k1,k2,k3⟩:=g2
  have h9:=S.gcd_more a n c L b m d M cc s S0 h w' h1 k1 hn hm (by omega) h3 k3 c0 cs (by rw[h2];exact cU) (by rw[k2];exact cV) (by rw[h2,k2];exact hS0) (Nat.le_trans (Nat.mul_le_mul (by omega) (by omega)) hT0)
  rwa [h2,k2] at h9
 have HU:=hd_ hU
 have HV:=hd_ hV
 have HN:=hd_ (And.intro hn (And.intro hm (And.intro hh (And.intro hsS (And.intro hS01 (And.intro hT0 hsm))))))
 have HC:=hd_ (And.intro c0 (And.intro cs (And.intro cU cV)))
 have HV0:=hd_ hV0
 have HLV:=hd_ (show plen V≤h by have:=hz.lv;omega)
 clear hU hV hz hT hn hm hh hS0 hS1 hS01 hsS hT0 hsm lU lV c0 cs cU cV hV0
 go_enter Tryz.func62,Tryz.ntmps62
 go_wp2_with fail
 refine (hGC _ HU.out HV.out).mono ?_
 rintro e w1 ⟨a3,n3,c3,g,rfl,h7,hg1,hg2,hg3,⟨z,hz0,hz1,hz2⟩,bw⟩
 obtain⟨hn,hm,hh,hsS,hS01,hT0,hsm⟩:=HN.out
 obtain⟨c0,cs,cU,cV⟩:=HC.out
 have hgl:=hg1.1.2.1.len HV0.out
 have hlg:g.length=n3:=h7.len
 have hgn:=a1_ hg2
 have hgz:Fz g g h (S1+2):=by
  have hp:pw (S0+2)≤pw (S1+2):=b9_ (by omega)
  have hl:=HLV.out
  exact⟨by omega,by omega,z.natAbs,by omega,Nat.le_trans hz1 hp,hz2.abs.mono hp,hz2.abs.mono hp⟩
 have hq9:∀q∈g,qlen q≤1900000000:=fun q hq=>Nat.le_trans (hg3 q hq) (by omega)
 have hn3:n3≤h:=by have:=HLV.out;omega
 have HDU:∀w':World,Pv w' a n c U 1900000000→Rw w' a3 n3 c3 g→Calls Tryz.prog 107 #[.slice a n c,.slice a3 n3 c3] w' (LstQuo U g w'):=fun w' g1 g2=>qr_ S g1 g2 hn hn3 hh c0 cs cU hsS hq9 hgl.1 hz0 hz1 hz2 hg1.1.1 hT0
 have HDV:∀w':World,Pv w' b m d V 1900000000→Rw w' a3 n3 c3 g→Calls Tryz.prog 107 #[.slice b m d,.slice a3 n3 c3] w' (LstQuo V g w'):=fun w' g1 g2=>qr_ S g1 g2 hm hn3 hh c0 cs cV hsS hq9 hgl.1 hz0 hz1 hz2 hg1.1.2.1 hT0
 have HB:=hd_ bw
 replace HU:=HU.l_ bw
 replace HV:=HV.l_ bw
 have GG:=hd_ h7
 have HG1:=hd_ (And.intro hg1 (And.intro hg2 hgz))
 clear bw h7 hg1 hg2 hg3 hz0 hz1 hz2 hgl hlg hgn hgz hq9 hn3 hn hm hh hsS hS01 hT0 hsm c0 cs cU cV HN HC HV0 HLV hGC
 go_wp2_with fail
 refine (HDU _ HU.out GG.out).mono ?_
 rintro e w2 ⟨a4,n4,c4,x,b4,m4,d4,rfl,h4,hx1,hx2,bw⟩
 replace HB:=bt_ HB bw
 replace HV:=HV.l_ bw
 replace GG:=GG.l_ bw
 have XX:=hd_ h4
 have HX:=hd_ (And.intro hx1 hx2)
 clear bw h4 hx1 hx2 HU HDU
 go_wp2_with fail
 refine (HDV _ HV.out GG.out).mono ?_
 rintro e w3 ⟨a5,n5,c5,y,b5,m5,d5,rfl,h5,hy1,hy2,bw⟩
 replace HB:=bt_ HB bw
 replace GG:=GG.l_ bw
 replace XX:=XX.l_ bw
 have YY:=hd_ h5
 have HY:=hd_ (And.intro hy1 hy2)
 clear bw h5 hy1 hy2 HV HDV
 go_wp2
 go_ret3
 exact⟨a4,n4,c4,x,a5,n5,c5,y,a3,n3,c3,g,rfl,XX.out,YY.out,GG.out,⟨HX.out.1,HY.out.1,HG1.out.2.1,HX.out.2,HY.out.2,HG1.out.1,HG1.out.2.2⟩,HB.out⟩
theorem Pv.boxed{w:World}{a:Option Addr}{n c N:Nat}{P:List Rat}(h:Pv w a n c P N){g:Nat}{x y:Option Addr}{n1 c1 n2 c2:Nat}{t:TypeId}(hg:w.heap[g]? = some (.cells #[.slice x n1 c1,.slice y n2 c2] t (0,0)))(u v:Value) :
 Pv ((w.setCell ⟨g,0,none⟩ u).setCell ⟨g,1,none⟩ v) a n c P N:=by
 obtain⟨L,h1,h2⟩:=h
 exact⟨L,h1.aside (v:=.slice (some ⟨g,0,none⟩) 0 0) (cz_ hg gd_) (da_ (cq_ w g 0 u) (cq_ _ g 1 v)),h2⟩
def LstH (u v:LR_) (h s:Nat) (w:World) (e:Ending) (w':World):Prop:=∃(a:OA_) (n c:Nat) (b:OA_) (m d:Nat),e=.returned (.agg #[.slice a n c,.slice b m d])∧Fv w' a n c b m d u v h s∧Below w.heap.size w w'
def LstPr (U V:LR_) (N:Nat) (w:World) (e:Ending) (w':World):Prop:=∃(a:OA_) (n c:Nat) (b:OA_) (m d:Nat),e=.returned (.agg #[.slice a n c,.slice b m d])∧Pv w' a n c U N∧Pv w' b m d V N∧Below w.heap.size w w'
theorem n9_{u:List Rat}(h:ai_ u=u):ai_ (ag_ (-1) u)=ag_ (-1) u:=by
 have h1:plen (ag_ (-1) u)=(ag_ (-1) u).length:=by rw[ba_ (by decide),a1_ h,a5_]
 rw[db_]
 exact List.take_of_length_le (by rw[show (ai_ (ag_ (-1) u)).length=plen (ag_ (-1) u) from rfl,h1];exact Nat.le_refl _)
theorem Rf.minus{u v:List Rat}(h:Rf u v):Rf (ag_ (-1) u) v:=by
 obtain⟨s,t,hst⟩:=h.coprime
 exact⟨n9_ h.ur,h.vr,h.v0,h.one,Cpr.sum ⟨ag_ (-1) s,t,fun x=>by rw[an_,an_,←hst x];grind⟩⟩
theorem isF.minus{U V u v:List Rat}(h:isF U V u v):isF (ag_ (-1) U) V (ag_ (-1) u) v:=by
 refine ⟨h.1.minus,fun e=>by rw[h.2.1 e];rfl,fun e=>ao_ fun x=>?_⟩
 have:=ak_ x (h.2.2 e)
 rw[ac_,ac_] at this
 rw[ac_,ac_,an_,an_];grind
theorem rd_{u:List Rat}{N:Nat}(h:∀q∈u,qlen q≤N)(hN:1≤N):∀q∈ai_ (ag_ (-1) u),qlen q≤N:=b7_ fun i=>by
 rw[ev_,ah_,show -1 * co u i = -(co u i) by grind,qo_]
 exact c0_ hN h i
theorem lu_(S:PolySaid){w:World}{v:Value}{q:Rat}{a:Option Addr}{n c N:Nat}{P:List Rat}(hv:Fr w v q 900000000)(h:Pv w a n c P N)(hn:n≤300)(hN:N≤900000000):Calls Tryz.prog 64 #[v,.slice a n c] w (ds_ (ai_ (ag_ q P)) w):=by
 obtain⟨L,h1,rfl,h3⟩:=h
 exact S.scale v q a n c L w hv h1 hn (h3.mono hN)
theorem o7_(S:PolySaid)(FS:FracSaid)(a:OA_)(n c:Nat)(b:OA_)(m d:Nat)(U V:LR_)(N:Nat)(w:World)(hU:Pv w a n c U N)(hV:Pv w b m d V N)(hq:∀q∈U,qlen q≤N)(h1:1≤N)(hN:N≤900000000)(hn:n≤50) :
 Calls Tryz.prog 82 #[.agg #[.slice a n c,.slice b m d]] w (LstPr (ai_ (ag_ (-1) U)) V N w):=by
 obtain⟨z0,hz0⟩:∃q:Rat,((-1:Int):Rat)=q:=⟨_,rfl⟩
 have hz00:z0 = -1:=by rw[←hz0];rfl
 have lz:qlen z0≤2:=by rw[←hz0];exact co_ (by decide)
 have HO1:∀w':World,Calls Tryz.prog 47 #[.int .i64 (-1)] w' (LstQ z0 w'):=fun w'=>hz0▸FS.of (-1) w' (by decide)
 have hPq:∀q∈ai_ (ag_ z0 U),qlen q≤N:=by rw[hz00];exact rd_ hq h1
 rw[←hz00]
 obtain⟨P',hP'⟩:∃l,ai_ (ag_ z0 U)=l:=⟨_,rfl⟩
 have HSC:∀(w':World) (a2:OA_) (n2 c2:Nat) (b2:OA_) (m2 d2:Nat),Wd w' a2 n2 c2 (dg z0.num.natAbs)→Wd w' b2 m2 d2 (dg z0.den)→Pv w' a n c U N→Calls Tryz.prog 64 #[.agg #[.bool (zneg z0.num),.slice a2 n2 c2,.slice b2 m2 d2],.slice a n c] w' (ds_ P' w'):=fun w' a2 n2 c2 b2 m2 d2 g1 g2 g3=>hP'▸lu_ S (Fr.right g1 g2 (by have:=g1.len;have:=bd_ z0;omega) (by have:=g2.len;have:=bc_ z0;omega)) g3 (by omega) hN
 rw[hP'] at hPq ⊢
 have HPQ:=hd_ hPq
 have HB:=hd_ (ab_ (aa_ w (.cells #[.slice a n c,.slice b m d] 35)) (aa_ _ (.cells #[.slice none 0 0,.slice none 0 0] 35)))
 have X0:Hid (((w.alloc (.cells #[.slice a n c,.slice b m d] 35)).alloc (.cells #[.slice none 0 0,.slice none 0 0] 35)).heap[w.heap.size]? = some (.cells #[.slice a n c,.slice b m d] 35 (0,0))):=hd_ (ae_ (aj_ w _ _) (aa_ _ (.cells #[.slice none 0 0,.slice none 0 0] 35)))
 have R0:Hid (((w.alloc (.cells #[.slice a n c,.slice b m d] 35)).alloc (.cells #[.slice none 0 0,.slice none 0 0] 35)).heap[w.heap.size+1]? = some (.cells #[.slice none 0 0,.slice none 0 0] 35 (0,0))):=hd_ (by have h9:=aj_ (w.alloc (.cells #[.slice a n c,.slice b m d] 35)) #[.slice none 0 0,.slice none 0 0] 35;rwa [aq_] at h9)
 have A1:=hd_ (hU.later HB.out)
 have B1:=hd_ (hV.later HB.out)
 clear hU hV hq h1 hN hn hz0 hz00 lz hP' hPq
 go_enter Tryz.func82,Tryz.ntmps82
 go_wp2
 generalize ((w.alloc (.cells #[.slice a n c,.slice b m d] 35)).alloc (.cells #[.slice none 0 0,.slice none 0 0] 35))=W at *
 replace HB:=bt_ HB (dw_ W)
 replace X0:Hid (W.drew.heap[w.heap.size]? = _):=hd_ X0.out
 replace R0:Hid (W.drew.heap[w.heap.size+1]? = some (.cells #[.slice none 0 0,.slice none 0 0] 35 (0,0))):=hd_ R0.out
 replace A1:=A1.l_ (dw_ W)
 replace B1:=B1.l_ (dw_ W)
 have pSn:=ek_ X0.out
 go_region_held3 (fun w'=>w'.cell? ⟨w.heap.size,0,none⟩=some (.slice a n c)∧w'.cell? ⟨w.heap.size,1,none⟩=some (.slice b m d)) (first | exact pSn | exact pSb _ _)
  (first
  | (go_at_call 47;(first
    | (refine (HO1 _).mono ?_;rintro e wp1 ⟨a21,n21,c21,b21,m21,d21,rfl,h21,g21,b⟩;replace HB:=bt_ HB b;replace X0:=bl_ X0 b;replace R0:=bl_ R0 b;replace A1:=A1.l_ b;replace B1:=B1.l_ b;have Z1:=hd_ h21;have Z2:=hd_ g21;clear h21 g21;unfold frV;clear b;clear pSn;have pSn:=ek_ X0.out;have pM1:=True.intro)))
  | (go_at_call 64;(first
    | (have pm1:=pM1;refine (HSC _ _ _ _ _ _ _ Z1.out Z2.out A1.out).mono ?_;rintro e wp2 ⟨a22,n22,c22,rfl,h22,b⟩;replace HB:=bt_ HB b;replace X0:=bl_ X0 b;replace R0:=bl_ R0 b;replace A1:=A1.l_ b;replace B1:=B1.l_ b;clear Z1;clear Z2;have P9:=hd_ h22;clear h22;obtain⟨r0,r1⟩:=bu_ R0.out;have e0:=af_ R0.out 0;have e1:=af_ R0.out 1;have pSb:=fun u v=>ek_ (cv_ (g:=w.heap.size+1) X0.out (by omega) u v);clear b;clear pSn;have pSn:=ek_ X0.out;clear pM1 pm1;have pM2:=True.intro))))
 have Q9:=hd_ B1.out
 have R9:=hd_ (bk_ R0.out (.slice a22 n22 c22) (.slice b m d))
 replace P9:=hd_ (P9.out.boxed R0.out (.slice a22 n22 c22) (.slice b m d))
 replace Q9:=hd_ (Q9.out.boxed R0.out (.slice a22 n22 c22) (.slice b m d))
 have G9:=hd_ (a0_ HB.out (show w.heap.size≤w.heap.size+1 by omega) (.slice a22 n22 c22) (.slice b m d))
 go_wp2
 refine bodyPost_ret (results_cell_row Tryz.results82 _ _ (w.heap.size+1) 35 #[.slice a22 n22 c22,.slice b m d] (0,0) _ rfl R9.out Tryz.underlying35 rfl (by kernel_rfl)) rfl ?_
 exact⟨a22,n22,c22,b,m,d,rfl,Pv.right P9.out HPQ.out,Q9.out,G9.out⟩
theorem k0_{A X:Nat}{x:Rat}(hx:qlen x≤X):∀{l:List Rat},(∀q∈l,qlen q≤A)→qlen (al_ x l)≤1+l.length * (A+X+3)
 | [],_=>by
   show qlen 0≤_
   rw[c9_];omega
 | c :: l,h=>by
   have h1:=k0_ hx (l:=l) (fun q hq=>h q (List.mem_cons_of_mem _ hq))
   have h2:=h c (List.mem_cons_self ..)
   have h3:=ch_ x (al_ x l)
   have h4:=eu_ c (x * al_ x l)
   rw[al_,List.length_cons,Nat.add_mul];omega
theorem fh_(S:PolySaid)(FS:FracSaid)(a:OA_)(n c:Nat)(b:OA_)(m d:Nat)(U V:LR_)(v9:Value)(x:Rat)(N X:Nat)(w:World)(hU:Pv w a n c U N)(hV:Pv w b m d V N)(hx:Fr w v9 x X)(hn:n≤50)(hm:m≤50)(hbU:(n+1) * ((n+1) * (X+8)+N+8)≤1900000000)(hbV:(m+1) * ((m+1) * (X+8)+N+8)≤1900000000) :
 Calls Tryz.prog 68 #[.agg #[.slice a n c,.slice b m d],v9] w (di_ (al_ x U / al_ x V) (.bool (decide (al_ x V≠0))) w):=by
 have hxl:=hx.len
 have hlen:∀(P:LR_) (a:OA_) (n c:Nat),Pv w a n c P N→(n+1) * ((n+1) * (X+8)+N+8)≤1900000000→qlen (al_ x P)≤2097152000:=fun P a n c g1 g2=>by
  have h1:=k0_ hxl g1.qlen
  rw[g1.len] at h1
  have h2:n * (N+1+(X+1)+3)≤(n+1) * ((n+1) * (X+8)+N+8):=Nat.mul_le_mul (by omega) (by have:X+8≤(n+1) * (X+8):=Nat.le_mul_of_pos_left _ (by omega);omega)
  omega
 have lU:=hlen U a n c hU hbU
 have lV:=hlen V b m d hV hbV
 obtain⟨s9,a9,n9,c9,l9,b9,m9,d9,k9,rfl,h91,h92,h93,h94,h95⟩:=hx
 have HX9:=hd_ h95
 have HEU:∀w':World,Pv w' a n c U N→Wd w' a9 n9 c9 l9→Wd w' b9 m9 d9 k9→Calls Tryz.prog 112 #[.slice a n c,.agg #[.bool s9,.slice a9 n9 c9,.slice b9 m9 d9]] w' (LstQ (al_ x U) w'):=fun w' g1 g2 g3=>eval_pv S g1 (Fr.of g2 g3 h93 h94 HX9.out) (by omega) hbU
 have HEV:∀w':World,Pv w' b m d V N→Wd w' a9 n9 c9 l9→Wd w' b9 m9 d9 k9→Calls Tryz.prog 112 #[.slice b m d,.agg #[.bool s9,.slice a9 n9 c9,.slice b9 m9 d9]] w' (LstQ (al_ x V) w'):=fun w' g1 g2 g3=>eval_pv S g1 (Fr.of g2 g3 h93 h94 HX9.out) (by omega) hbV
 obtain⟨p,hp⟩:∃p,al_ x U=p:=⟨_,rfl⟩
 obtain⟨q,hq⟩:∃p,al_ x V=p:=⟨_,rfl⟩
 rw[hp] at lU
 rw[hq] at lV
 simp only[hp] at HEU
 simp only[hq] at HEV
 rw[hp,hq]
 have HQU:∀(w':World) (a2:OA_) (n2 c2:Nat) (b2:OA_) (m2 d2:Nat) (a3:OA_) (n3 c3:Nat) (b3:OA_) (m3 d3:Nat),Wd w' a2 n2 c2 (dg p.num.natAbs)→Wd w' b2 m2 d2 (dg p.den)→Wd w' a3 n3 c3 (dg q.num.natAbs)→Wd w' b3 m3 d3 (dg q.den)→Calls Tryz.prog 63 #[.agg #[.bool (zneg p.num),.slice a2 n2 c2,.slice b2 m2 d2],.agg #[.bool (zneg q.num),.slice a3 n3 c3,.slice b3 m3 d3]] w' (di_ (p / q) (.bool (decide (q≠0))) w'):=fun w' a2 n2 c2 b2 m2 d2 a3 n3 c3 b3 m3 d3 g1 g2 g3 g4=>FS.quo _ _ p q w' (Fr.right g1 g2 (by have:=g1.len;have:=bd_ p;omega) (by have:=g2.len;have:=bc_ p;omega)) (Fr.right g3 g4 (by have:=g3.len;have:=bd_ q;omega) (by have:=g4.len;have:=bc_ q;omega))
 obtain⟨r,hr⟩:∃r,p / q=r:=⟨_,rfl⟩
 obtain⟨bo,hbo⟩:∃r,decide (q≠0)=r:=⟨_,rfl⟩
 simp only[hr,hbo] at HQU
 rw[hr,hbo]
 have HB:=hd_ (ab_ (ab_ (aa_ w (.cells #[.slice a n c,.slice b m d] 35)) (aa_ _ (.cells #[.bool s9,.slice a9 n9 c9,.slice b9 m9 d9] 44))) (aa_ _ (.cells #[.bool false,.slice none 0 0,.slice none 0 0] 44)))
 have X0:Hid ((((w.alloc (.cells #[.slice a n c,.slice b m d] 35)).alloc (.cells #[.bool s9,.slice a9 n9 c9,.slice b9 m9 d9] 44)).alloc (.cells #[.bool false,.slice none 0 0,.slice none 0 0] 44)).heap[w.heap.size]? = some (.cells #[.slice a n c,.slice b m d] 35 (0,0))):=hd_ (ae_ (ae_ (aj_ w _ _) (aa_ _ (.cells #[.bool s9,.slice a9 n9 c9,.slice b9 m9 d9] 44))) (aa_ _ (.cells #[.bool false,.slice none 0 0,.slice none 0 0] 44)))
 have X1:Hid ((((w.alloc (.cells #[.slice a n c,.slice b m d] 35)).alloc (.cells #[.bool s9,.slice a9 n9 c9,.slice b9 m9 d9] 44)).alloc (.cells #[.bool false,.slice none 0 0,.slice none 0 0] 44)).heap[w.heap.size+1]? = some (.cells #[.bool s9,.slice a9 n9 c9,.slice b9 m9 d9] 44 (0,0))):=hd_ (ae_ (by have h9:=aj_ (w.alloc (.cells #[.slice a n c,.slice b m d] 35)) #[.bool s9,.slice a9 n9 c9,.slice b9 m9 d9] 44;rwa [aq_] at h9) (aa_ _ (.cells #[.bool false,.slice none 0 0,.slice none 0 0] 44)))
 have R0:Hid ((((w.alloc (.cells #[.slice a n c,.slice b m d] 35)).alloc (.cells #[.bool s9,.slice a9 n9 c9,.slice b9 m9 d9] 44)).alloc (.cells #[.bool false,.slice none 0 0,.slice none 0 0] 44)).heap[w.heap.size+1+1]? = some (.cells #[.bool false,.slice none 0 0,.slice none 0 0] 44 (0,0))):=hd_ (by have h9:=aj_ ((w.alloc (.cells #[.slice a n c,.slice b m d] 35)).alloc (.cells #[.bool s9,.slice a9 n9 c9,.slice b9 m9 d9] 44)) #[.bool false,.slice none 0 0,.slice none 0 0] 44;rwa [aq_,aq_] at h9)
 have A1:=hd_ (hU.later HB.out)
 have B1:=hd_ (hV.later HB.out)
 have F3:=hd_ (h91.later HB.out)
 have F4:=hd_ (h92.later HB.out)
 clear hU hV h91 h92 h93 h94 h95 HX9 hxl hlen lU lV hp hq hr hbo hn hm hbU hbV
 go_enter Tryz.func68,Tryz.ntmps68
 unfold frV
 go_wp2
 generalize (((w.alloc (.cells #[.slice a n c,.slice b m d] 35)).alloc (.cells #[.bool s9,.slice a9 n9 c9,.slice b9 m9 d9] 44)).alloc (.cells #[.bool false,.slice none 0 0,.slice none 0 0] 44))=W at *
 replace HB:=bt_ HB (dw_ W)
 replace X0:Hid (W.drew.heap[w.heap.size]? = _):=hd_ X0.out
 replace X1:Hid (W.drew.heap[w.heap.size+1]? = _):=hd_ X1.out
 replace R0:Hid (W.drew.heap[w.heap.size+1+1]? = some (.cells #[.bool false,.slice none 0 0,.slice none 0 0] 44 (0,0))):=hd_ R0.out
 replace A1:=A1.l_ (dw_ W)
 replace B1:=B1.l_ (dw_ W)
 replace F3:=F3.l_ (dw_ W)
 replace F4:=F4.l_ (dw_ W)
 have pSn:=b8_ X0.out X1.out
 go_region_held3 (fun w'=>w'.cell? ⟨w.heap.size,0,none⟩=some (.slice a n c)∧w'.cell? ⟨w.heap.size,1,none⟩=some (.slice b m d)∧w'.cell? ⟨w.heap.size+1,0,none⟩=some (.bool s9)∧w'.cell? ⟨w.heap.size+1,1,none⟩=some (.slice a9 n9 c9)∧w'.cell? ⟨w.heap.size+1,2,none⟩=some (.slice b9 m9 d9)) (first | exact pSn | exact pSb _ _ _)
  (first
  | (go_at_call 112;(first
    | (have pm1:=pM1;refine (HEV _ B1.out F3.out F4.out).mono ?_;rintro e wp2 ⟨a22,n22,c22,b22,m22,d22,rfl,h22,g22,b⟩;replace HB:=bt_ HB b;replace X0:=bl_ X0 b;replace X1:=bl_ X1 b;replace R0:=bl_ R0 b;replace A1:=A1.l_ b;replace B1:=B1.l_ b;replace F3:=F3.l_ b;replace F4:=F4.l_ b;replace Z1:=Z1.l_ b;replace Z2:=Z2.l_ b;have Z3:=hd_ h22;have Z4:=hd_ g22;clear h22 g22;unfold frV;clear b;clear pSn;have pSn:=b8_ X0.out X1.out;clear pM1 pm1;have pM2:=True.intro)
    | (refine (HEU _ A1.out F3.out F4.out).mono ?_;rintro e wp1 ⟨a21,n21,c21,b21,m21,d21,rfl,h21,g21,b⟩;replace HB:=bt_ HB b;replace X0:=bl_ X0 b;replace X1:=bl_ X1 b;replace R0:=bl_ R0 b;replace A1:=A1.l_ b;replace B1:=B1.l_ b;replace F3:=F3.l_ b;replace F4:=F4.l_ b;have Z1:=hd_ h21;have Z2:=hd_ g21;clear h21 g21;unfold frV;clear b;clear pSn;have pSn:=b8_ X0.out X1.out;have pM1:=True.intro)))
  | (go_at_call 63;(first
    | (have pm2:=pM2;refine (HQU _ _ _ _ _ _ _ _ _ _ _ _ _ Z1.out Z2.out Z3.out Z4.out).mono ?_;rintro e wp3 ⟨a23,n23,c23,b23,m23,d23,rfl,h23,g23,b⟩;replace HB:=bt_ HB b;replace X0:=bl_ X0 b;replace X1:=bl_ X1 b;replace R0:=bl_ R0 b;replace A1:=A1.l_ b;replace B1:=B1.l_ b;replace F3:=F3.l_ b;replace F4:=F4.l_ b;clear Z1;clear Z2;clear Z3;clear Z4;have F22:=hd_ h23;have G22:=hd_ g23;clear h23 g23;unfold frV;obtain⟨r0,r1,r2⟩:=as_ R0.out;have e0:=af_ R0.out 0;have e1:=af_ R0.out 1;have e2:=af_ R0.out 2;have pSb:=fun u v q=>b8_ (bv_ (g:=w.heap.size+1+1) X0.out (by omega) u v q) (bv_ (g:=w.heap.size+1+1) X1.out (by omega) u v q);clear b;clear pSn;have pSn:=b8_ X0.out X1.out;clear pM2 pm2;have pM3:=True.intro))))
 have R9:=hd_ (bm_ R0.out (.bool (zneg r.num)) (.slice a23 n23 c23) (.slice b23 m23 d23))
 have P9:=hd_ (F22.out.stored3 R0.out (zneg r.num) a23 n23 c23 (.slice b23 m23 d23))
 have Q9:=hd_ (G22.out.stored3 R0.out (zneg r.num) a23 n23 c23 (.slice b23 m23 d23))
 have G9:=hd_ (aw_ HB.out (show w.heap.size≤w.heap.size+1+1 by omega) (.bool (zneg r.num)) (.slice a23 n23 c23) (.slice b23 m23 d23))
 go_wp2
 refine bodyPost_ret (bi_ Tryz.results68 _ _ (w.heap.size+1+1) 44 #[.bool (zneg r.num),.slice a23 n23 c23,.slice b23 m23 d23] (0,0) _ rfl R9.out Tryz.underlying44 rfl (by kernel_rfl)) rfl ?_
 exact⟨a23,n23,c23,b23,m23,d23,rfl,P9.out,Q9.out,G9.out⟩
def LstE (u v:LR_) (w:World) (e:Ending) (w':World):Prop:=∃(a:OA_) (n c:Nat) (b:OA_) (m d:Nat),e=.returned (.agg #[.slice a n c,.slice b m d])∧Rw w' a n c u∧Rw w' b m d v∧Below w.heap.size w w'
def LstEV (u v:LR_) (z:Value) (w:World) (e:Ending) (w':World):Prop:=∃(a:OA_) (n c:Nat) (b:OA_) (m d:Nat),e=.returned (.tuple #[.agg #[.slice a n c,.slice b m d],z])∧Rw w' a n c u∧Rw w' b m d v∧Below w.heap.size w w'
theorem LstE.right{u v U V:List Rat}(h:isF U V u v){w w':World}{e:Ending}(k:LstE u v w e w'):LstF U V w e w':=by
 obtain⟨a,n,c,b,m,d,h1,h2,h3,h4⟩:=k
 exact⟨a,n,c,u,b,m,d,v,h1,h2,h3,h,h4⟩
theorem LstEV.right{u v U V:List Rat}{z:Value}(h:isF U V u v){w w':World}{e:Ending}(k:LstEV u v z w e w'):LstFV U V z w e w':=by
 obtain⟨a,n,c,b,m,d,h1,h2,h3,h4⟩:=k
 exact⟨a,n,c,u,b,m,d,v,h1,h2,h3,h,h4⟩
theorem pt_(l:LR_):isF l [1] (ai_ l) [1]:=by
 have h1:Rf (ai_ l) [1]:=Rf.of_cop (cop_one _) nt_ (peq.refl _) (peq.refl _) (a9_ l) (by decide +kernel)
 exact h1.isF.of (au_ l) (peq.refl _)
theorem Pv.lit2(w:World)(e:TypeId){s1 s2:Bool}{p q:Rat}{a1 b1 a2 b2:Option Addr}{n1 c1 m1 d1 n2 c2 m2 d2 N:Nat}{l1 k1 l2 k2:List Nat}(h1:Wd w a1 n1 c1 l1)(h2:Wd w b1 m1 d1 k1)(h3:Wd w a2 n2 c2 l2)(h4:Wd w b2 m2 d2 k2)(hn1:n1≤N)(hm1:m1≤N)(hn2:n2≤N)(hm2:m2≤N)(hp:qval s1 (val l1) (val k1)=p)(hq:qval s2 (val l2) (val k2)=q) :
 Pv (w.alloc (.cells #[.bool s1,.slice a1 n1 c1,.slice b1 m1 d1,.bool s2,.slice a2 n2 c2,.slice b2 m2 d2] e)) (some ⟨w.heap.size,0,none⟩) 2 2 [p,q] N:=by
 have hb:Below w.heap.size w (w.alloc (.cells #[.bool s1,.slice a1 n1 c1,.slice b1 m1 d1,.bool s2,.slice a2 n2 c2,.slice b2 m2 d2] e)):=aa_ _ _
 have hx:=aj_ w #[.bool s1,.slice a1 n1 c1,.slice b1 m1 d1,.bool s2,.slice a2 n2 c2,.slice b2 m2 d2] e
 refine ⟨[⟨s1,a1,n1,c1,l1,b1,m1,d1,k1⟩,⟨s2,a2,n2,c2,l2,b2,m2,d2,k2⟩],⟨rfl,Nat.le_refl _,by omega,fun h=>(by cases h),fun x hx=>?_,.inr ⟨w.heap.size,0,rfl,fun j hj=>?_⟩⟩,?_,fun x hx=>?_⟩
 ·simp only[List.mem_cons,List.not_mem_nil,or_false] at hx
  rcases hx with rfl | rfl
  ·exact⟨h1.later hb,h2.later hb⟩
  ·exact⟨h3.later hb,h4.later hb⟩
 ·match j,hj with
  | 0,_=>exact⟨ad_ hx 0,ad_ hx 1,ad_ hx 2⟩
  | 1,_=>exact⟨ad_ hx 3,ad_ hx 4,ad_ hx 5⟩
 ·show [qval s1 (val l1) (val k1),qval s2 (val l2) (val k2)]=_
  rw[hp,hq]
 ·simp only[List.mem_cons,List.not_mem_nil,or_false] at hx
  rcases hx with rfl | rfl
  ·exact⟨hn1,hm1⟩
  ·exact⟨hn2,hm2⟩
theorem nk_(S:PolySaid)(FS:FracSaid)(v1:Value)(p:Rat)(v2:Value)(q:Rat)(X:Nat)(w:World)(h1:Fr w v1 p X)(h2:Fr w v2 q X)(hX:X≤1900000000):Calls Tryz.prog 46 #[v1,v2] w (LstE (ai_ [p,q]) [1] w):=by
 obtain⟨s1,a1,n1,c1,l1,b1,m1,d1,k1,rfl,h11,h12,h13,h14,h15⟩:=h1
 obtain⟨s2,a2,n2,c2,l2,b2,m2,d2,k2,rfl,h21,h22,h23,h24,h25⟩:=h2
 obtain⟨z1,hz1⟩:∃q:Rat,((1:Int):Rat)=q:=⟨_,rfl⟩
 have hz11:([1]:LR_)=[z1]:=by rw[←hz1];rfl
 have HO1:∀w':World,Calls Tryz.prog 47 #[.int .i64 1] w' (LstQ z1 w'):=fun w'=>hz1▸FS.of 1 w' (by decide)
 rw[hz11]
 obtain⟨l,hl⟩:∃l,ai_ [p,q]=l:=⟨_,rfl⟩
 have HNO:∀(w':World) (a':OA_) (c':Nat),Pv w' a' 2 c' [p,q] X→Calls Tryz.prog 95 #[.slice a' 2 c'] w' (ds_ l w'):=fun w' a' c' g1=>hl▸norm_pv S g1 (by omega) hX
 rw[hl]
 have HB:=hd_ (ab_ (ab_ (aa_ w (.cells #[.bool s1,.slice a1 n1 c1,.slice b1 m1 d1] 44)) (aa_ _ (.cells #[.bool s2,.slice a2 n2 c2,.slice b2 m2 d2] 44))) (aa_ _ (.cells #[.slice none 0 0,.slice none 0 0] 35)))
 have X0:Hid ((((w.alloc (.cells #[.bool s1,.slice a1 n1 c1,.slice b1 m1 d1] 44)).alloc (.cells #[.bool s2,.slice a2 n2 c2,.slice b2 m2 d2] 44)).alloc (.cells #[.slice none 0 0,.slice none 0 0] 35)).heap[w.heap.size]? = some (.cells #[.bool s1,.slice a1 n1 c1,.slice b1 m1 d1] 44 (0,0))):=hd_ (ae_ (ae_ (aj_ w _ _) (aa_ _ (.cells #[.bool s2,.slice a2 n2 c2,.slice b2 m2 d2] 44))) (aa_ _ (.cells #[.slice none 0 0,.slice none 0 0] 35)))
 have X1:Hid ((((w.alloc (.cells #[.bool s1,.slice a1 n1 c1,.slice b1 m1 d1] 44)).alloc (.cells #[.bool s2,.slice a2 n2 c2,.slice b2 m2 d2] 44)).alloc (.cells #[.slice none 0 0,.slice none 0 0] 35)).heap[w.heap.size+1]? = some (.cells #[.bool s2,.slice a2 n2 c2,.slice b2 m2 d2] 44 (0,0))):=hd_ (ae_ (by have h9:=aj_ (w.alloc (.cells #[.bool s1,.slice a1 n1 c1,.slice b1 m1 d1] 44)) #[.bool s2,.slice a2 n2 c2,.slice b2 m2 d2] 44;rwa [aq_] at h9) (aa_ _ (.cells #[.slice none 0 0,.slice none 0 0] 35)))
 have R0:Hid ((((w.alloc (.cells #[.bool s1,.slice a1 n1 c1,.slice b1 m1 d1] 44)).alloc (.cells #[.bool s2,.slice a2 n2 c2,.slice b2 m2 d2] 44)).alloc (.cells #[.slice none 0 0,.slice none 0 0] 35)).heap[w.heap.size+1+1]? = some (.cells #[.slice none 0 0,.slice none 0 0] 35 (0,0))):=hd_ (by have h9:=aj_ ((w.alloc (.cells #[.bool s1,.slice a1 n1 c1,.slice b1 m1 d1] 44)).alloc (.cells #[.bool s2,.slice a2 n2 c2,.slice b2 m2 d2] 44)) #[.slice none 0 0,.slice none 0 0] 35;rwa [aq_,aq_] at h9)
 have F1:=hd_ (h11.later HB.out)
 have F2:=hd_ (h12.later HB.out)
 have F3:=hd_ (h21.later HB.out)
 have F4:=hd_ (h22.later HB.out)
 have hli:=Pv.lit2 (((w.alloc (.cells #[.bool s1,.slice a1 n1 c1,.slice b1 m1 d1] 44)).alloc (.cells #[.bool s2,.slice a2 n2 c2,.slice b2 m2 d2] 44)).alloc (.cells #[.slice none 0 0,.slice none 0 0] 35)) 44 F1.out F2.out F3.out F4.out h13 h14 h23 h24 h15 h25
 rw[aq_,aq_,aq_] at hli
 have HLI:=hd_ hli
 clear hli
 have ba:=aa_ (((w.alloc (.cells #[.bool s1,.slice a1 n1 c1,.slice b1 m1 d1] 44)).alloc (.cells #[.bool s2,.slice a2 n2 c2,.slice b2 m2 d2] 44)).alloc (.cells #[.slice none 0 0,.slice none 0 0] 35)) (.cells #[.bool s1,.slice a1 n1 c1,.slice b1 m1 d1,.bool s2,.slice a2 n2 c2,.slice b2 m2 d2] 44)
 obtain⟨x0,x1,x2,x3,x4,x5⟩:=a7_ X0.out X1.out
 clear h11 h12 h21 h22 h13 h14 h23 h24 h15 h25 hl hz1 hz11 F1 F2 F3 F4 hX
 go_enter Tryz.func46,Tryz.ntmps46
 unfold frV
 go_wp2_with fail
 refine (HNO _ _ _ HLI.out).mono ?_
 rintro e w1 ⟨a4,n4,c4,rfl,h4,bw⟩
 clear x0 x1 x2 x3 x4 x5
 replace HB:=hd_ (ab_ (ab_ HB.out ba) bw)
 replace R0:=hd_ (ae_ (ae_ R0.out ba) bw)
 have PP:=hd_ h4
 clear bw h4 ba HLI HNO X0 X1
 go_wp2_with fail
 refine (HO1 _).mono ?_
 rintro e w2 ⟨a5,n5,c5,b5,m5,d5,rfl,h5,g5,b⟩
 replace HB:=bt_ HB b
 replace R0:=bl_ R0 b
 have bb:=aa_ w2 (.cells #[.bool (zneg z1.num),.slice a5 n5 c5,.slice b5 m5 d5] 44)
 have P9:=hd_ ((PP.out.later b).later bb)
 have Q9:=hd_ (Rw.lit1 w2 44 h5 g5)
 replace HB:=bt_ HB bb
 replace R0:=bl_ R0 bb
 clear b bb h5 g5 HO1 PP
 unfold frV
 obtain⟨r0,r1⟩:=bu_ R0.out
 have e0:=af_ R0.out 0
 have e1:=af_ R0.out 1
 have R9:=hd_ (bk_ R0.out (.slice a4 n4 c4) (.slice (some ⟨w2.heap.size,0,none⟩) 1 1))
 replace P9:=hd_ (P9.out.boxed R0.out (.slice a4 n4 c4) (.slice (some ⟨w2.heap.size,0,none⟩) 1 1))
 replace Q9:=hd_ (Q9.out.boxed R0.out (.slice a4 n4 c4) (.slice (some ⟨w2.heap.size,0,none⟩) 1 1))
 have G9:=hd_ (a0_ HB.out (show w.heap.size≤w.heap.size+1+1 by omega) (.slice a4 n4 c4) (.slice (some ⟨w2.heap.size,0,none⟩) 1 1))
 go_wp2
 refine bodyPost_ret (results_cell_row Tryz.results46 _ _ (w.heap.size+1+1) 35 #[.slice a4 n4 c4,.slice (some ⟨w2.heap.size,0,none⟩) 1 1] (0,0) _ rfl R9.out Tryz.underlying35 rfl (by kernel_rfl)) rfl ?_
 exact⟨a4,n4,c4,_,1,1,rfl,P9.out,Q9.out,G9.out⟩
theorem ol_(S:PolySaid)(FS:FracSaid)(v9:Value)(p:Rat)(X:Nat)(w:World)(h9:Fr w v9 p X)(hX:X≤1900000000)(hX2:2≤X):Calls Tryz.prog 28 #[v9] w (LstE (ai_ [p,0]) [1] w):=by
 obtain⟨s9,a9,n9,c9,l9,b9,m9,d9,k9,rfl,h91,h92,h93,h94,h95⟩:=h9
 obtain⟨z0,hz0⟩:∃q:Rat,((0:Int):Rat)=q:=⟨_,rfl⟩
 have hz00:(0:Rat)=z0:=by rw[←hz0];rfl
 have lz:qlen z0≤2:=by rw[←hz0];exact co_ (by decide)
 have HO0:∀w':World,Calls Tryz.prog 47 #[.int .i64 0] w' (LstQ z0 w'):=fun w'=>hz0▸FS.of 0 w' (by decide)
 have HX9:=hd_ h95
 rw[hz00]
 obtain⟨l,hl⟩:∃l,ai_ [p,z0]=l:=⟨_,rfl⟩
 obtain⟨ON,hON⟩:∃l:LR_,[1]=l:=⟨_,rfl⟩
 have HLI:∀(w':World) (a2:OA_) (n2 c2:Nat) (b2:OA_) (m2 d2:Nat),Wd w' a9 n9 c9 l9→Wd w' b9 m9 d9 k9→Wd w' a2 n2 c2 (dg z0.num.natAbs)→Wd w' b2 m2 d2 (dg z0.den)→Calls Tryz.prog 46 #[.agg #[.bool s9,.slice a9 n9 c9,.slice b9 m9 d9],.agg #[.bool (zneg z0.num),.slice a2 n2 c2,.slice b2 m2 d2]] w' (LstE l ON w'):=fun w' a2 n2 c2 b2 m2 d2 g1 g2 g3 g4=>hON▸hl▸nk_ S FS _ p _ z0 X w' (Fr.of g1 g2 h93 h94 HX9.out) (Fr.right g3 g4 (by have:=g3.len;have:=bd_ z0;omega) (by have:=g4.len;have:=bc_ z0;omega)) hX
 rw[hl,hON]
 have HB:=hd_ (ab_ (aa_ w (.cells #[.bool s9,.slice a9 n9 c9,.slice b9 m9 d9] 44)) (aa_ _ (.cells #[.slice none 0 0,.slice none 0 0] 35)))
 have X0:Hid (((w.alloc (.cells #[.bool s9,.slice a9 n9 c9,.slice b9 m9 d9] 44)).alloc (.cells #[.slice none 0 0,.slice none 0 0] 35)).heap[w.heap.size]? = some (.cells #[.bool s9,.slice a9 n9 c9,.slice b9 m9 d9] 44 (0,0))):=hd_ (ae_ (aj_ w _ _) (aa_ _ (.cells #[.slice none 0 0,.slice none 0 0] 35)))
 have R0:Hid (((w.alloc (.cells #[.bool s9,.slice a9 n9 c9,.slice b9 m9 d9] 44)).alloc (.cells #[.slice none 0 0,.slice none 0 0] 35)).heap[w.heap.size+1]? = some (.cells #[.slice none 0 0,.slice none 0 0] 35 (0,0))):=hd_ (by have h9:=aj_ (w.alloc (.cells #[.bool s9,.slice a9 n9 c9,.slice b9 m9 d9] 44)) #[.slice none 0 0,.slice none 0 0] 35;rwa [aq_] at h9)
 have F1:=hd_ (h91.later HB.out)
 have F2:=hd_ (h92.later HB.out)
 clear h91 h92 h93 h94 h95 hz0 hz00 lz hl hON hX hX2 HX9
 go_enter Tryz.func28,Tryz.ntmps28
 unfold frV
 go_wp2
 generalize ((w.alloc (.cells #[.bool s9,.slice a9 n9 c9,.slice b9 m9 d9] 44)).alloc (.cells #[.slice none 0 0,.slice none 0 0] 35))=W at *
 replace HB:=bt_ HB (dw_ W)
 replace X0:Hid (W.drew.heap[w.heap.size]? = _):=hd_ X0.out
 replace R0:Hid (W.drew.heap[w.heap.size+1]? = some (.cells #[.slice none 0 0,.slice none 0 0] 35 (0,0))):=hd_ R0.out
 replace F1:=F1.l_ (dw_ W)
 replace F2:=F2.l_ (dw_ W)
 have pSn:=as_ X0.out
 go_region_held3 (fun w'=>w'.cell? ⟨w.heap.size,0,none⟩=some (.bool s9)∧w'.cell? ⟨w.heap.size,1,none⟩=some (.slice a9 n9 c9)∧w'.cell? ⟨w.heap.size,2,none⟩=some (.slice b9 m9 d9)) (first | exact pSn | exact pSb _ _)
  (first
  | (go_at_call 47;(first
    | (refine (HO0 _).mono ?_;rintro e wp1 ⟨a21,n21,c21,b21,m21,d21,rfl,h21,g21,b⟩;replace HB:=bt_ HB b;replace X0:=bl_ X0 b;replace R0:=bl_ R0 b;replace F1:=F1.l_ b;replace F2:=F2.l_ b;have Z1:=hd_ h21;have Z2:=hd_ g21;clear h21 g21;unfold frV;clear b;clear pSn;have pSn:=as_ X0.out;have pM1:=True.intro)))
  | (go_at_call 46;(first
    | (have pm1:=pM1;refine (HLI _ _ _ _ _ _ _ F1.out F2.out Z1.out Z2.out).mono ?_;rintro e wp2 ⟨a23,n23,c23,b23,m23,d23,rfl,h23,g23,b⟩;replace HB:=bt_ HB b;replace X0:=bl_ X0 b;replace R0:=bl_ R0 b;replace F1:=F1.l_ b;replace F2:=F2.l_ b;clear Z1;clear Z2;have P9:=hd_ h23;have Q9:=hd_ g23;clear h23 g23;obtain⟨r0,r1⟩:=bu_ R0.out;have e0:=af_ R0.out 0;have e1:=af_ R0.out 1;have pSb:=fun u v=>as_ (cv_ (g:=w.heap.size+1) X0.out (by omega) u v);clear b;clear pSn;have pSn:=as_ X0.out;clear pM1 pm1;have pM2:=True.intro))))
 have R9:=hd_ (bk_ R0.out (.slice a23 n23 c23) (.slice b23 m23 d23))
 replace P9:=hd_ (P9.out.boxed R0.out (.slice a23 n23 c23) (.slice b23 m23 d23))
 replace Q9:=hd_ (Q9.out.boxed R0.out (.slice a23 n23 c23) (.slice b23 m23 d23))
 have G9:=hd_ (a0_ HB.out (show w.heap.size≤w.heap.size+1 by omega) (.slice a23 n23 c23) (.slice b23 m23 d23))
 go_wp2
 refine bodyPost_ret (results_cell_row Tryz.results28 _ _ (w.heap.size+1) 35 #[.slice a23 n23 c23,.slice b23 m23 d23] (0,0) _ rfl R9.out Tryz.underlying35 rfl (by kernel_rfl)) rfl ?_
 exact⟨a23,n23,c23,b23,m23,d23,rfl,P9.out,Q9.out,G9.out⟩
theorem j3_(S:PolySaid)(a:OA_)(n c:Nat)(b:OA_)(m d:Nat)(U V:LR_)(N:Nat)(w:World)(hU:Pv w a n c U N)(hV:Pv w b m d V N)(hn:n≤50)(hm:m≤50)(hN:N≤1900000000):Calls Tryz.prog 23 #[.agg #[.slice a n c,.slice b m d]] w (bg_ (.bool (decide (plen U=0∨plen V=0))) w):=by
 have HDU:∀w':World,Pv w' a n c U N→Calls Tryz.prog 61 #[.slice a n c] w' (bg_ (.int .i64 ((plen U:Int) - 1)) w'):=fun w' g1=>g1_ S g1 (by omega) hN
 have HDV:∀w':World,Pv w' b m d V N→Calls Tryz.prog 61 #[.slice b m d] w' (bg_ (.int .i64 ((plen V:Int) - 1)) w'):=fun w' g1=>g1_ S g1 (by omega) hN
 have HB:=hd_ (aa_ w (.cells #[.slice a n c,.slice b m d] 35))
 have X0:Hid ((w.alloc (.cells #[.slice a n c,.slice b m d] 35)).heap[w.heap.size]? = some (.cells #[.slice a n c,.slice b m d] 35 (0,0))):=hd_ (aj_ w _ _)
 have A1:=hd_ (hU.later HB.out)
 have B1:=hd_ (hV.later HB.out)
 obtain⟨i,hi⟩:∃i:Int,(plen U:Int) - 1=i:=⟨_,rfl⟩
 obtain⟨j,hj⟩:∃i:Int,(plen V:Int) - 1=i:=⟨_,rfl⟩
 rw[hi] at HDU
 rw[hj] at HDV
 obtain⟨x0,x1⟩:=bu_ X0.out
 by_cases h0:plen U=0
 ·have hi0:i < 0:=by omega
  rw[decide_eq_true (.inl h0:plen U=0∨plen V=0)]
  clear hU hV hi hj h0
  go_enter Tryz.func23,Tryz.ntmps23
  go_wp2_with fail
  refine (HDU _ A1.out).mono ?_
  rintro e w1 ⟨rfl,bw⟩
  replace HB:=bt_ HB bw
  clear bw x0 x1 HDU HDV
  go_wp2
  go_ret
  exact⟨rfl,HB.out⟩
 ·have hi0:¬i < 0:=by omega
  have hbo:decide (plen U=0∨plen V=0)=decide (j < 0):=decide_eq_decide.2 ⟨fun h=>by omega,fun h=>.inr (by omega)⟩
  rw[hbo]
  clear hU hV hi hj h0 hbo
  go_enter Tryz.func23,Tryz.ntmps23
  go_wp2_with fail
  refine (HDU _ A1.out).mono ?_
  rintro e w1 ⟨rfl,bw⟩
  replace HB:=bt_ HB bw
  replace X0:=bl_ X0 bw
  replace B1:=B1.l_ bw
  clear bw x0 x1 HDU
  obtain⟨x0,x1⟩:=bu_ X0.out
  go_wp2_with fail
  refine (HDV _ B1.out).mono ?_
  rintro e w2 ⟨rfl,bw⟩
  replace HB:=bt_ HB bw
  clear bw x0 x1 HDV
  go_wp2
  go_ret
  exact⟨by show Ending.returned (Value.bool (decide (i < 0) || decide (j < 0)))=_;rw[decide_eq_false (show ¬i < 0 by omega),Bool.false_or],HB.out⟩
end Go.Proofs.YtocebjbjnfammaaGreat
