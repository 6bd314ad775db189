import Derived.Test.YtocebjbjnfammaaGreatTG12
import Derived.Deep.RegionHeld3
import Derived.Test.YtocebjbjnfammaaGreatTG9
import Derived.Test.YtocebjbjnfammaaGreatTG6
import Derived.StillTailTactics
import Derived.Test.YtocebjbjnfammaaGreatTG8
import Derived.Test.YtocebjbjnfammaaGreatTG11
import Derived.Test.YtocebjbjnfammaaGreatTG3
import Derived.Test.YtocebjbjnfammaaGreatTG5
import Derived.Test.YtocebjbjnfammaaGreatTG7
import Derived.Test.YtocebjbjnfammaaGreatTG1
set_option maxRecDepth 4096
set_option maxHeartbeats 16000000
namespace Go.Proofs.YtocebjbjnfammaaGreat
open Go.RowKit
theorem n7_(a1:OA_)(n1 c1:Nat)(u1:LR_)(b1:OA_)(m1 d1:Nat)(v1:LR_){h1 r1:Nat}(w:World)(ha1:Rw w a1 n1 c1 u1)(hb1:Rw w b1 m1 d1 v1)(f1:Fz u1 v1 h1 r1)(hk:Fok (h1+h1) (r1+r1+3)) :
 Calls Tryz.prog 27 #[.agg #[.slice a1 n1 c1,.slice b1 m1 d1]] w (LstF (dup u1 v1) (pmul v1 v1) w):=by
 have hmul:=fok_mul hk
 have hh50:h1+h1≤50:=hk.2.1
 have lu1:u1.length≤h1:=f1.lu
 have lv1:v1.length≤h1:=f1.lv
 have hsm:r1+r1+3+12≤2000000000:=Nat.le_trans (Nat.le_mul_of_pos_left _ (by omega)) hmul
 have qu1:∀q∈u1,qlen q≤r1+2:=f1.qlen
 have qv1:∀q∈v1,qlen q≤r1+2:=f1.swap.qlen
 have hpw:∀(x y:LR_),x.length≤h1→(∀q∈x,qlen q≤r1+5)→(∀q∈y,qlen q≤r1+2)→(x.length+1) * (r1+5+(r1+2)+8)≤2000000000:=fun x y hx _ _=>Nat.le_trans (Nat.mul_le_mul (by omega) (by omega)) hmul
 obtain⟨du,hdu⟩:∃l,ah_ (bw_ u1)=l:=⟨_,rfl⟩
 obtain⟨dv,hdv⟩:∃l,ah_ (bw_ v1)=l:=⟨_,rfl⟩
 have ldu:du.length≤h1:=by rw[←hdu];exact Nat.le_trans (az_ _) (Nat.le_trans (fd_ _) lu1)
 have ldv:dv.length≤h1:=by rw[←hdv];exact Nat.le_trans (az_ _) (Nat.le_trans (fd_ _) lv1)
 have qdu:∀q∈du,qlen q≤r1+5:=fun q hq=>n6_ (A:=r1+2) (by omega) (by omega) qu1 q (hdu▸hq)
 have qdv:∀q∈dv,qlen q≤r1+5:=fun q hq=>n6_ (A:=r1+2) (by omega) (by omega) qv1 q (hdv▸hq)
 have HDU:∀(w':World) ,Rw w' a1 n1 c1 u1→Calls Tryz.prog 81 #[.slice a1 n1 c1] w' (b5_ du w'):=fun w' h9=>hdu▸oi_ a1 n1 c1 u1 w' h9 (by have:=h9.len;omega) (fun q hq=>Nat.le_trans (qu1 q hq) (by omega))
 have HDV:∀(w':World) ,Rw w' b1 m1 d1 v1→Calls Tryz.prog 81 #[.slice b1 m1 d1] w' (b5_ dv w'):=fun w' h9=>hdv▸oi_ b1 m1 d1 v1 w' h9 (by have:=h9.len;omega) (fun q hq=>Nat.le_trans (qv1 q hq) (by omega))
 obtain⟨p3,hp3⟩:∃l,ah_ (pmul du v1)=l:=⟨_,rfl⟩
 have lp3:p3.length≤h1+h1:=by rw[←hp3];exact Nat.le_trans (az_ _) (Nat.le_trans (b7_ _ _) (by omega))
 have hb3:(du.length+1) * ((r1+5)+(r1+2)+8)≤2000000000:=Nat.le_trans (Nat.mul_le_mul (by omega) (by omega)) hmul
 have lq3:∀q∈p3,qlen q≤2000000000:=fun q hq=>by
  have h9:=gw_ (A:=(r1+5)) (B:=(r1+2)) (by omega) (by omega) qdu qv1 q (hp3▸hq)
  have h8:du.length * ((r1+5)+(r1+2)+3)≤du.length * ((r1+5)+(r1+2)+8):=Nat.mul_le_mul_left _ (by omega)
  rw[Nat.add_mul,Nat.one_mul] at hb3
  omega
 have HM3:∀(w':World) (a3:OA_) (n3 c3:Nat) (a4:OA_) (n4 c4:Nat),Rw w' a3 n3 c3 du→Rw w' a4 n4 c4 v1→Calls Tryz.prog 80 #[.slice a3 n3 c3,.slice a4 n4 c4] w' (b5_ p3 w'):=fun w' a3 n3 c3 a4 n4 c4 h8 h9=>hp3▸lt_ a3 n3 c3 du a4 n4 c4 v1 ((r1+5)) ((r1+2)) w' h8 h9 (by have:=h8.len;omega) (by have:=h9.len;omega) qdu qv1 (by omega) (by omega) (by rw[←h8.len];omega)
 obtain⟨p4,hp4⟩:∃l,ah_ (pmul u1 dv)=l:=⟨_,rfl⟩
 have lp4:p4.length≤h1+h1:=by rw[←hp4];exact Nat.le_trans (az_ _) (Nat.le_trans (b7_ _ _) (by omega))
 have hb4:(u1.length+1) * ((r1+2)+(r1+5)+8)≤2000000000:=Nat.le_trans (Nat.mul_le_mul (by omega) (by omega)) hmul
 have lq4:∀q∈p4,qlen q≤2000000000:=fun q hq=>by
  have h9:=gw_ (A:=(r1+2)) (B:=(r1+5)) (by omega) (by omega) qu1 qdv q (hp4▸hq)
  have h8:u1.length * ((r1+2)+(r1+5)+3)≤u1.length * ((r1+2)+(r1+5)+8):=Nat.mul_le_mul_left _ (by omega)
  rw[Nat.add_mul,Nat.one_mul] at hb4
  omega
 have HM4:∀(w':World) (a3:OA_) (n3 c3:Nat) (a4:OA_) (n4 c4:Nat),Rw w' a3 n3 c3 u1→Rw w' a4 n4 c4 dv→Calls Tryz.prog 80 #[.slice a3 n3 c3,.slice a4 n4 c4] w' (b5_ p4 w'):=fun w' a3 n3 c3 a4 n4 c4 h8 h9=>hp4▸lt_ a3 n3 c3 u1 a4 n4 c4 dv ((r1+2)) ((r1+5)) w' h8 h9 (by have:=h8.len;omega) (by have:=h9.len;omega) qu1 qdv (by omega) (by omega) (by rw[←h8.len];omega)
 obtain⟨p5,hp5⟩:∃l,ah_ (pmul v1 v1)=l:=⟨_,rfl⟩
 have lp5:p5.length≤h1+h1:=by rw[←hp5];exact Nat.le_trans (az_ _) (Nat.le_trans (b7_ _ _) (by omega))
 have hb5:(v1.length+1) * ((r1+2)+(r1+2)+8)≤2000000000:=Nat.le_trans (Nat.mul_le_mul (by omega) (by omega)) hmul
 have lq5:∀q∈p5,qlen q≤2000000000:=fun q hq=>by
  have h9:=gw_ (A:=(r1+2)) (B:=(r1+2)) (by omega) (by omega) qv1 qv1 q (hp5▸hq)
  have h8:v1.length * ((r1+2)+(r1+2)+3)≤v1.length * ((r1+2)+(r1+2)+8):=Nat.mul_le_mul_left _ (by omega)
  rw[Nat.add_mul,Nat.one_mul] at hb5
  omega
 have HM5:∀(w':World) (a3:OA_) (n3 c3:Nat) (a4:OA_) (n4 c4:Nat),Rw w' a3 n3 c3 v1→Rw w' a4 n4 c4 v1→Calls Tryz.prog 80 #[.slice a3 n3 c3,.slice a4 n4 c4] w' (b5_ p5 w'):=fun w' a3 n3 c3 a4 n4 c4 h8 h9=>hp5▸lt_ a3 n3 c3 v1 a4 n4 c4 v1 ((r1+2)) ((r1+2)) w' h8 h9 (by have:=h8.len;omega) (by have:=h9.len;omega) qv1 qv1 (by omega) (by omega) (by rw[←h8.len];omega)
 obtain⟨up,hup⟩:∃l,ah_ (psub p3 p4)=l:=⟨_,rfl⟩
 have lup:up.length≤h1+h1:=by rw[←hup];exact Nat.le_trans (az_ _) (Nat.le_trans (fz_ _ _) (by rw[a9_];omega))
 have HSU:∀(w':World) (a3:OA_) (n3 c3:Nat) (a4:OA_) (n4 c4:Nat),Rw w' a3 n3 c3 p3→Rw w' a4 n4 c4 p4→Calls Tryz.prog 79 #[.slice a3 n3 c3,.slice a4 n4 c4] w' (b5_ up w'):=fun w' a3 n3 c3 a4 n4 c4 h8 h9=>hup▸rc_ a3 n3 c3 p3 a4 n4 c4 p4 w' h8 h9 (by have:=h8.len;omega) (by have:=h9.len;omega) (fun q hq=>Nat.le_trans (lq3 q hq) (by decide)) lq4
 have hue:peq (dup u1 v1) up:=by
  unfold dup
  refine peq.symm ((hup▸au_ (psub p3 p4):peq up (psub p3 p4)).trans (c6_ ?_ (bu_ _ ?_)))
  ·exact (hp3▸au_ (pmul du v1):peq p3 (pmul du v1)).trans (a1_ (hdu▸au_ _) (peq.refl _))
  ·exact (hp4▸au_ (pmul u1 dv):peq p4 (pmul u1 dv)).trans (a1_ (peq.refl _) (hdv▸au_ _))
 have HNO:∀(w':World) (a3:OA_) (n3 c3:Nat) (b3:OA_) (m3 d3:Nat),Rw w' a3 n3 c3 up→Rw w' b3 m3 d3 p5→Calls Tryz.prog 10 #[.agg #[.slice a3 n3 c3,.slice b3 m3 d3]] w' (LstF (dup u1 v1) (pmul v1 v1) w'):=fun w' a3 n3 c3 b3 m3 d3 h8 h9=>jx_ a3 n3 c3 up b3 m3 d3 p5 w' h8 h9 hue (hp5▸(au_ _).symm) (f1.dup (by omega)) lup lp5 hk
 have HB:=hd_ (ab_ (aa_ w (.cells #[.slice a1 n1 c1,.slice b1 m1 d1] 24)) (aa_ _ (.cells #[.slice none 0 0,.slice none 0 0] 24)))
 have X0:Hid (((w.alloc (.cells #[.slice a1 n1 c1,.slice b1 m1 d1] 24)).alloc (.cells #[.slice none 0 0,.slice none 0 0] 24)).heap[w.heap.size]? = some (.cells #[.slice a1 n1 c1,.slice b1 m1 d1] 24 (0,0))):=hd_ (ac_ (ai_ w _ _) (aa_ _ (.cells #[.slice none 0 0,.slice none 0 0] 24)))
 have R0:Hid (((w.alloc (.cells #[.slice a1 n1 c1,.slice b1 m1 d1] 24)).alloc (.cells #[.slice none 0 0,.slice none 0 0] 24)).heap[w.heap.size+1]? = some (.cells #[.slice none 0 0,.slice none 0 0] 24 (0,0))):=hd_ (by have h9:=ai_ (w.alloc (.cells #[.slice a1 n1 c1,.slice b1 m1 d1] 24)) #[.slice none 0 0,.slice none 0 0] 24;rwa [al_] at h9)
 have A1:=hd_ (ha1.later HB.out)
 have B1:=hd_ (hb1.later HB.out)
 clear ha1 hb1 f1 hk hmul hh50 hsm hpw lu1 lv1 qu1 qv1 hdu hdv ldu ldv qdu qdv hp3 lp3 hb3 lq3 hp4 lp4 hb4 lq4 hp5 lp5 hb5 lq5 hup lup hue
 go_enter Tryz.func27,Tryz.ntmps27
 go_wp2
 generalize ((w.alloc (.cells #[.slice a1 n1 c1,.slice b1 m1 d1] 24)).alloc (.cells #[.slice none 0 0,.slice none 0 0] 24))=W at *
 replace HB:=bt_ HB (dw_ W)
 replace X0:Hid (W.drew.heap[w.heap.size]? = _):=hd_ X0.out
 replace R0:Hid (W.drew.heap[w.heap.size+1]? = some (.cells #[.slice none 0 0,.slice none 0 0] 24 (0,0))):=hd_ R0.out
 replace A1:=A1.l_ (dw_ W)
 replace B1:=B1.l_ (dw_ W)
 have pSn:=c4_ X0.out
 go_region_held3 (fun w'=>w'.cell? ⟨w.heap.size,0,none⟩=some (.slice a1 n1 c1)∧w'.cell? ⟨w.heap.size,1,none⟩=some (.slice b1 m1 d1)) (exact pSn)
  (first
  | (go_at_call 81;(first
    | (have pm2:=pM2;refine (HDV _ B1.out).mono ?_;rintro e wp3 ⟨a23,n23,c23,rfl,h23,b⟩;replace HB:=bt_ HB b;replace X0:=bl_ X0 b;replace R0:=bl_ R0 b;replace A1:=A1.l_ b;replace B1:=B1.l_ b;replace P3:=P3.l_ b;have D2:=hd_ h23;clear h23;clear b;clear pSn;have pSn:=c4_ X0.out;clear pM2 pm2;have pM3:=True.intro)
    | (refine (HDU _ A1.out).mono ?_;rintro e wp1 ⟨a21,n21,c21,rfl,h21,b⟩;replace HB:=bt_ HB b;replace X0:=bl_ X0 b;replace R0:=bl_ R0 b;replace A1:=A1.l_ b;replace B1:=B1.l_ b;have D1:=hd_ h21;clear h21;clear b;clear pSn;have pSn:=c4_ X0.out;have pM1:=True.intro)))
  | (go_at_call 80;(first
    | (have pm3:=pM3;refine (HM4 _ _ _ _ _ _ _ A1.out D2.out).mono ?_;rintro e wp4 ⟨a24,n24,c24,rfl,h24,b⟩;replace HB:=bt_ HB b;replace X0:=bl_ X0 b;replace R0:=bl_ R0 b;replace A1:=A1.l_ b;replace B1:=B1.l_ b;replace P3:=P3.l_ b;clear D2;have P4:=hd_ h24;clear h24;clear b;clear pSn;have pSn:=c4_ X0.out;clear pM3 pm3;have pM4:=True.intro)
    | (have pm1:=pM1;refine (HM3 _ _ _ _ _ _ _ D1.out B1.out).mono ?_;rintro e wp2 ⟨a22,n22,c22,rfl,h22,b⟩;replace HB:=bt_ HB b;replace X0:=bl_ X0 b;replace R0:=bl_ R0 b;replace A1:=A1.l_ b;replace B1:=B1.l_ b;clear D1;have P3:=hd_ h22;clear h22;clear b;clear pSn;have pSn:=c4_ X0.out;clear pM1 pm1;have pM2:=True.intro)))
  | (go_at_call 79;(first
    | (have pm4:=pM4;refine (HSU _ _ _ _ _ _ _ P3.out P4.out).mono ?_;rintro e wp5 ⟨a25,n25,c25,rfl,h25,b⟩;replace HB:=bt_ HB b;replace X0:=bl_ X0 b;replace R0:=bl_ R0 b;replace A1:=A1.l_ b;replace B1:=B1.l_ b;clear P3;clear P4;have UP:=hd_ h25;clear h25;clear b;clear pSn;have pSn:=c4_ X0.out;clear pM4 pm4;have pM5:=True.intro))))
 obtain⟨x0,x1⟩:=bd_ X0.out
 go_wp2_with fail
 refine (HM5 _ _ _ _ _ _ _ B1.out B1.out).mono ?_
 rintro e w31 ⟨a31,n31,c31,rfl,h31,bw⟩
 clear x0 x1
 replace HB:=bt_ HB bw
 replace R0:=bl_ R0 bw
 replace UP:=UP.l_ bw
 have DN:=hd_ h31
 clear h31 bw
 go_wp2_with fail
 refine (HNO _ _ _ _ _ _ _ UP.out DN.out).mono ?_
 rintro e w32 ⟨a32,n32,c32,u32,b32,m32,d32,v32,rfl,h32,g32,k32,bw⟩
 replace HB:=bt_ HB bw
 replace R0:=bl_ R0 bw
 have F32:=hd_ h32
 have G32:=hd_ g32
 have K32:=hd_ k32
 obtain⟨r0,r1'⟩:=bd_ R0.out
 have e0:=ae_ R0.out 0
 have e1:=ae_ R0.out 1
 clear h32 g32 k32 bw UP DN
 have R9:=hd_ (bj_ R0.out (.slice a32 n32 c32) (.slice b32 m32 d32))
 have P9:=hd_ (F32.out.boxed R0.out (.slice a32 n32 c32) (.slice b32 m32 d32))
 have Q9:=hd_ (G32.out.boxed R0.out (.slice a32 n32 c32) (.slice b32 m32 d32))
 have G9:=hd_ (ay_ HB.out (show w.heap.size≤w.heap.size+1 by omega) (.slice a32 n32 c32) (.slice b32 m32 d32))
 go_wp2
 refine bodyPost_ret (results_cell_row Tryz.results27 _ _ (w.heap.size+1) 24 #[.slice a32 n32 c32,.slice b32 m32 d32] (0,0) _ rfl R9.out Tryz.underlying24 rfl (by kernel_rfl)) rfl ?_
 exact⟨a32,n32,c32,u32,b32,m32,d32,v32,rfl,P9.out,Q9.out,K32.out,G9.out⟩
theorem o2_(p q:Rat):(zneg p.num=zneg q.num∧dg p.num.natAbs=dg q.num.natAbs∧dg p.den=dg q.den)↔p=q:=by
 constructor
 ·rintro ⟨h1,h2,h3⟩
  have e2:p.num.natAbs=q.num.natAbs:=by have:=congrArg val h2;rwa [a3_,a3_] at this
  have e3:p.den=q.den:=by have:=congrArg val h3;rwa [a3_,a3_] at this
  have e1:p.num=q.num:=by
   have a1:=hp_ p.num
   have a2:=hp_ q.num
   rw[←a1,←a2,h1,e2]
  exact Rat.ext e1 e3
 ·rintro rfl;exact⟨rfl,rfl,rfl⟩
theorem pz_(v u:Value)(p q:Rat)(w:World)(h:Rt w v p 15728640000)(k:Rt w u q 15728640000):Calls Tryz.prog 72 #[v,u] w (bf_ (.bool (decide (p=q))) w):=by
 obtain⟨a,n,cap,b,m,cap',rfl,ha,hb,hn,hm⟩:=h
 obtain⟨a',n',c',b',m',d',rfl,ha',hb',hn',hm'⟩:=k
 have e:=uu_ (zneg p.num) a n cap _ b m cap' _ (zneg q.num) a' n' c' _ b' m' d' _ w ha hb ha' hb'
 rwa [decide_eq_decide.2 (o2_ p q)] at e
theorem j9_(a0:OA_)(n0 c0:Nat)(qs0:LR_)(a1:OA_)(n1 c1:Nat)(qs1:LR_)(w:World)(h0:Rw w a0 n0 c0 qs0)(h1:Rw w a1 n1 c1 qs1)(hn:n0≤1000)(ht0:∀q∈qs0,qlen q≤15728640000)(ht1:∀q∈qs1,qlen q≤15728640000) :
 Calls Tryz.prog 76 #[.slice a0 n0 c0,.slice a1 n1 c1] w (bf_ (.bool (decide (qs0=qs1))) w):=by
 have HK0:=hd_ h0
 have HK1:=hd_ h1
 have HLl0:=hd_ h0.len
 have HLl1:=hd_ h1.len
 have hbd0:=h0.bound
 have hbd1:=h1.bound
 have HTh0:=hd_ ht0
 have HTh1:=hd_ ht1
 clear h0 h1 ht0 ht1
 obtain⟨r,hr⟩:∃r,decide (qs0=qs1)=r:=⟨_,rfl⟩
 have HR:=hd_ hr
 rw[hr]
 clear hr
 go_enter Tryz.func76,Tryz.ntmps76
 by_cases hnm:n0=n1
 ·subst hnm
  go_wp2
  go_loopw [5] (fun iv wr=>∃k:Nat,k≤n0∧iv=.int .i64 (k:Int)∧Hid (qs0.take k=qs1.take k)∧Hid (Below w.heap.size w wr)) (fun iv _=>n0 - (intOf iv).toNat)
  case atStart=>exact⟨0,by omega,rfl,hd_ rfl,hd_ (Below.refl _ _)⟩
  case round=>
   obtain⟨k,hk,rfl,HO,HB⟩:=hrel
   by_cases hlt:k < n0
   ·have HT0:Hid (qs0.take (k+1)=qs0.take k ++ [qs0.getD k 0]):=hd_ (f9_ (by rw[HLl0.out];exact hlt))
    have HT1:Hid (qs1.take (k+1)=qs1.take k ++ [qs1.getD k 0]):=hd_ (f9_ (by rw[HLl1.out];exact hlt))
    obtain⟨bb0,off0,rfl,ak0,nk0,ck0,bk0,mk0,dk0,he0,hA0,hB0⟩:=HK0.out.at hlt
    have hth0:nk0≤15728640000:=by rw[←hA0.len];exact Nat.le_trans (a5_ _) (HTh0.out _ (fq_ (by rw[HLl0.out];exact hlt)))
    have htj0:mk0≤15728640000:=by rw[←hB0.len];exact Nat.le_trans (a4_ _) (HTh0.out _ (fq_ (by rw[HLl0.out];exact hlt)))
    have HE0:=hd_ he0
    have AK0:=hd_ hA0
    have BK0:=hd_ hB0
    clear he0 hA0 hB0
    obtain⟨bb1,off1,rfl,ak1,nk1,ck1,bk1,mk1,dk1,he1,hA1,hB1⟩:=HK1.out.at hlt
    have hth1:nk1≤15728640000:=by rw[←hA1.len];exact Nat.le_trans (a5_ _) (HTh1.out _ (fq_ (by rw[HLl1.out];exact hlt)))
    have htj1:mk1≤15728640000:=by rw[←hB1.len];exact Nat.le_trans (a4_ _) (HTh1.out _ (fq_ (by rw[HLl1.out];exact hlt)))
    have HE1:=hd_ he1
    have AK1:=hd_ hA1
    have BK1:=hd_ hB1
    clear he1 hA1 hB1
    generalize qs0.getD k 0=qk0 at *
    generalize qs1.getD k 0=qk1 at *
    have hki:(k:Int) < (n0:Int):=by omega
    obtain⟨e00,e10,e20⟩:=an_ HE0.out HB.out
    obtain⟨e01,e11,e21⟩:=an_ HE1.out HB.out
    go_wp2
    go_still_tail 8,(by kernel_rfl)
    change wpList _ _ _ _ _ wr.drew
    have b0:Below wr.heap.size wr wr.drew:=(Below.refl _ _).drew
    replace HB:=bt_ HB b0
    clear e00 e10 e20 e01 e11 e21 b0
    generalize wr.drew=wr at *
    have HC:∀u v,u=frV (zneg qk0.num) ak0 nk0 ck0 bk0 mk0 dk0→v=frV (zneg qk1.num) ak1 nk1 ck1 bk1 mk1 dk1→Calls Tryz.prog 72 #[u,v] wr (bf_ (.bool (decide (qk0=qk1))) wr):=by
     rintro _ _ rfl rfl
     exact pz_ _ _ qk0 qk1 _ (Rt.of (AK0.out.later HB.out) (BK0.out.later HB.out) (by omega) (by omega)) (Rt.of (AK1.out.later HB.out) (BK1.out.later HB.out) (by omega) (by omega))
    go_wp2_with fail
    refine (HC _ _ rfl rfl).mono ?_
    rintro e w4 ⟨rfl,b4⟩
    replace HB:=bt_ HB b4
    clear b4 HC
    by_cases hq:qk0=qk1
    ·have HO5:Hid (qs0.take (k+1)=qs1.take (k+1)):=hd_ (by rw[HT0.out,HT1.out,HO.out,hq])
     rw[decide_eq_true hq]
     clear hq HT0 HT1 HO
     go_wp2
     go_roundw
     case rel=>exact⟨k+1,by omega,by go_num,HO5,HB⟩
     case measure=>simp[intOf];omega
    ·have hne:¬qs0=qs1:=fun e=>by
      subst e
      have h8:=HT0.out.symm.trans HT1.out
      have h9:=List.append_cancel_left h8
      exact hq (by simpa using h9)
     obtain rfl:false=r:=(decide_eq_false hne).symm.trans HR.out
     rw[decide_eq_false hq]
     clear hq hne HT0 HT1 HO
     go_wp2
     go_ret
     exact⟨rfl,HB.out⟩
   ·obtain rfl:k=n0:=by omega
    have he:qs0=qs1:=by
     have h8:=HO.out
     rwa [List.take_of_length_le (by rw[HLl0.out];exact Nat.le_refl _),List.take_of_length_le (by rw[HLl1.out];exact Nat.le_refl _)] at h8
    obtain rfl:true=r:=(decide_eq_true he).symm.trans HR.out
    clear he
    go_wp2
    go_ret
    exact⟨rfl,HB.out⟩
 ·have hne:¬qs0=qs1:=fun e=>hnm (by rw[←HLl0.out,←HLl1.out,e])
  have hnmi:((n0:Int) != (n1:Int))=true:=by simp;omega
  obtain rfl:false=r:=(decide_eq_false hne).symm.trans HR.out
  clear hne
  go_wp2
  go_ret
  exact⟨rfl,Below.refl _ _⟩
theorem wb_(a:OA_)(n c:Nat)(b:OA_)(m d:Nat)(r:Bool)(w:World)(hr:((n:Int) == 0)=r):Calls Tryz.prog 21 #[.agg #[.slice a n c,.slice b m d]] w (bf_ (.bool r) w):=by
 have HB:=hd_ (aa_ w (.cells #[.slice a n c,.slice b m d] 24))
 have X0:=hd_ (ai_ w #[.slice a n c,.slice b m d] 24)
 obtain⟨x0,x1⟩:=bd_ X0.out
 go_enter Tryz.func21,Tryz.ntmps21
 go_wp2
 go_ret
 exact⟨rfl,HB.out⟩
theorem oc_(a1:OA_)(n1 c1:Nat)(u1:LR_)(b1:OA_)(m1 d1:Nat)(v1:LR_)(a2:OA_)(n2 c2:Nat)(u2:LR_)(b2:OA_)(m2 d2:Nat)(v2:LR_)(r:Bool)(w:World)(ha1:Rw w a1 n1 c1 u1)(hb1:Rw w b1 m1 d1 v1)(ha2:Rw w a2 n2 c2 u2)(hb2:Rw w b2 m2 d2 v2)(ln:n1≤1000)(lm:m1≤1000)(q1:∀q∈u1,qlen q≤15728640000)(q2:∀q∈v1,qlen q≤15728640000)(q3:∀q∈u2,qlen q≤15728640000)(q4:∀q∈v2,qlen q≤15728640000)
 (hr:decide (u1=u2∧v1=v2)=r):Calls Tryz.prog 25 #[.agg #[.slice a1 n1 c1,.slice b1 m1 d1],.agg #[.slice a2 n2 c2,.slice b2 m2 d2]] w (bf_ (.bool r) w):=by
 have HS1:=fun w' h8 h9=>j9_ a1 n1 c1 u1 a2 n2 c2 u2 w' h8 h9 ln q1 q3
 have HS2:=fun w' h8 h9=>j9_ b1 m1 d1 v1 b2 m2 d2 v2 w' h8 h9 lm q2 q4
 have HB:=hd_ (ab_ (aa_ w (.cells #[.slice a1 n1 c1,.slice b1 m1 d1] 24)) (aa_ _ (.cells #[.slice a2 n2 c2,.slice b2 m2 d2] 24)))
 have X0:Hid (((w.alloc (.cells #[.slice a1 n1 c1,.slice b1 m1 d1] 24)).alloc (.cells #[.slice a2 n2 c2,.slice b2 m2 d2] 24)).heap[w.heap.size]? = some (.cells #[.slice a1 n1 c1,.slice b1 m1 d1] 24 (0,0))):=hd_ (ac_ (ai_ w _ _) (aa_ _ (.cells #[.slice a2 n2 c2,.slice b2 m2 d2] 24)))
 have X1:Hid (((w.alloc (.cells #[.slice a1 n1 c1,.slice b1 m1 d1] 24)).alloc (.cells #[.slice a2 n2 c2,.slice b2 m2 d2] 24)).heap[w.heap.size+1]? = some (.cells #[.slice a2 n2 c2,.slice b2 m2 d2] 24 (0,0))):=hd_ (by have h9:=ai_ (w.alloc (.cells #[.slice a1 n1 c1,.slice b1 m1 d1] 24)) #[.slice a2 n2 c2,.slice b2 m2 d2] 24;rwa [al_] at h9)
 have A1:=hd_ (ha1.later HB.out)
 have B1:=hd_ (hb1.later HB.out)
 have A2:=hd_ (ha2.later HB.out)
 have B2:=hd_ (hb2.later HB.out)
 obtain⟨x0,x1⟩:=bd_ X0.out
 obtain⟨x2,x3⟩:=bd_ X1.out
 clear ha1 hb1 ha2 hb2 q1 q2 q3 q4
 by_cases hu:u1=u2
 ·rw[decide_eq_true hu] at HS1
  have hv:decide (v1=v2)=r:=by rw[←hr];exact decide_eq_decide.2 ⟨fun h=>⟨hu,h⟩,fun h=>h.2⟩
  rw[hv] at HS2
  clear hr hv hu
  go_enter Tryz.func25,Tryz.ntmps25
  go_wp2_with fail
  refine (HS1 _ A1.out A2.out).mono ?_
  rintro e w1 ⟨rfl,bw⟩
  clear x0 x1 x2 x3 HS1
  replace HB:=bt_ HB bw
  replace X0:=bl_ X0 bw
  replace X1:=bl_ X1 bw
  replace B1:=B1.l_ bw
  replace B2:=B2.l_ bw
  clear bw
  obtain⟨x0,x1⟩:=bd_ X0.out
  obtain⟨x2,x3⟩:=bd_ X1.out
  go_wp2_with fail
  refine (HS2 _ B1.out B2.out).mono ?_
  rintro e w2 ⟨rfl,bw⟩
  replace HB:=bt_ HB bw
  clear bw x0 x1 x2 x3 X0 X1
  go_wp2
  go_ret
  exact⟨rfl,HB.out⟩
 ·rw[decide_eq_false hu] at HS1
  have hrf:r=false:=by rw[←hr];exact decide_eq_false (fun h=>hu h.1)
  subst hrf
  clear hr hu HS2
  go_enter Tryz.func25,Tryz.ntmps25
  go_wp2_with fail
  refine (HS1 _ A1.out A2.out).mono ?_
  rintro e w1 ⟨rfl,bw⟩
  clear x0 x1 x2 x3 HS1
  replace HB:=bt_ HB bw
  clear bw X0 X1 B1 B2 A1 A2
  go_wp2
  go_ret
  exact⟨rfl,HB.out⟩
theorem eg_(a:OA_)(n c:Nat)(L:List Fx)(b:OA_)(m d:Nat)(M:List Fx)(K N:Int)(r:Bool)(w:World)(h:Fxs w a n c L)(k:Fxs w b m d M)(hK:0≤K∧K≤1000)(hr:r=true↔¬(((n:Int)≤K∧thinI N L)∧((m:Int)≤K∧thinI N M))) :
 Calls Tryz.prog 7 #[.agg #[.slice a n c,.slice b m d],.int .i64 K,.int .i64 N] w (bf_ (.bool r) w):=by
 have HB:=hd_ (aa_ w (.cells #[.slice a n c,.slice b m d] 24))
 have X0:=hd_ (ai_ w #[.slice a n c,.slice b m d] 24)
 have A1:=hd_ (h.later HB.out)
 have B1:=hd_ (k.later HB.out)
 obtain⟨x0,x1⟩:=bd_ X0.out
 clear h k
 by_cases hu:(n:Int)≤K∧thinI N L
 ·have H1:=fun w' h8=>j4_ a n c L K N false w' h8 hK (hd_ ⟨fun h9=>absurd h9 (by decide),fun h9=>absurd hu h9⟩)
  have hr2:r=true↔¬((m:Int)≤K∧thinI N M):=hr.trans ⟨fun h1 h2=>h1 ⟨hu,h2⟩,fun h1 h2=>h1 h2.2⟩
  have H2:=fun w' h8=>j4_ b m d M K N r w' h8 hK (hd_ hr2)
  clear hr hr2 hu
  go_enter Tryz.func7,Tryz.ntmps7
  go_wp2_with fail
  refine (H1 _ A1.out).mono ?_
  rintro e w1 ⟨rfl,bw⟩
  clear x0 x1 H1 A1
  replace HB:=bt_ HB bw
  replace X0:=bl_ X0 bw
  replace B1:=B1.l_ bw
  clear bw
  obtain⟨x0,x1⟩:=bd_ X0.out
  go_wp2_with fail
  refine (H2 _ B1.out).mono ?_
  rintro e w2 ⟨rfl,bw⟩
  replace HB:=bt_ HB bw
  clear bw x0 x1 X0 H2 B1
  go_wp2
  go_ret
  exact⟨rfl,HB.out⟩
 ·have H1:=fun w' h8=>j4_ a n c L K N true w' h8 hK (hd_ ⟨fun _=>hu,fun _=>rfl⟩)
  have hr2:r=true:=hr.2 (fun h1=>hu h1.1)
  subst hr2
  clear hr hu
  go_enter Tryz.func7,Tryz.ntmps7
  go_wp2_with fail
  refine (H1 _ A1.out).mono ?_
  rintro e w1 ⟨rfl,bw⟩
  clear x0 x1 H1 A1 B1 X0
  replace HB:=bt_ HB bw
  clear bw
  go_wp2
  go_ret
  exact⟨rfl,HB.out⟩
theorem s1_(a:OA_)(n c:Nat)(qs:LR_)(w:World)(h:Rw w a n c qs)(hn:n≤1000) :
 Calls Tryz.prog 115 #[.slice a n c] w (fun e w'=>∃(a':OA_) (c':Nat),e=.returned (.slice a' n c')∧Rw w' a' n c' qs∧Below w.heap.size w w'):=by
 obtain⟨L,h1,h2,h3⟩:=h
 exact (law11_of a n c L w h1 hn).mono fun _ _ ⟨a',c',he,h4,hb⟩=>⟨a',c',he,⟨L,h4,h2,h3⟩,hb⟩
theorem tn_(a0:OA_)(n0 c0:Nat)(qs0:LR_)(a1:OA_)(n1 c1:Nat)(qs1:LR_)(w:World)(h0:Rw w a0 n0 c0 qs0)(h1:Rw w a1 n1 c1 qs1)(hn:n0≤1000)(ht0:∀q∈qs0,qlen q≤15728640000)(ht1:∀q∈qs1,qlen q≤15728640000) :
 Calls Tryz.prog 71 #[.slice a0 n0 c0,.slice a1 n1 c1] w (bf_ (.bool (decide (qs0=qs1))) w):=by
 obtain⟨r,hr⟩:∃r,decide (qs0=qs1)=r:=⟨_,rfl⟩
 have HR:=hd_ hr
 have H1:=hd_ h1
 have HT0:=hd_ ht0
 have HT1:=hd_ ht1
 rw[hr]
 clear hr h1 ht0 ht1
 go_enter Tryz.func71,Tryz.ntmps71
 go_wp2_with fail
 refine (s1_ a0 n0 c0 qs0 _ h0 hn).mono ?_
 rintro e w1 ⟨a2,c2,rfl,h2,b⟩
 have H2:=hd_ h2
 have H3:=H1.l_ b
 have HB:=hd_ b
 clear h2 b H1
 go_wp2_with fail
 refine (j9_ a2 n0 c2 qs0 a1 n1 c1 qs1 _ H2.out H3.out hn HT0.out HT1.out).mono ?_
 rintro e w2 ⟨rfl,b⟩
 rw[HR.out]
 have HB2:=hd_ (ab_ HB.out b)
 clear b
 go_wp2
 go_ret
 exact⟨rfl,HB2.out⟩

theorem Fxs.boxed{w:World}{a:Option Addr}{n c:Nat}{L:List Fx}(h:Fxs w a n c L){g:Nat}{x y:Option Addr}{n1 c1 n2 c2:Nat}{t:TypeId}(hg:w.heap[g]? = some (.cells #[.slice x n1 c1,.slice y n2 c2] t (0,0)))(u v:Value) :
 Fxs ((w.setCell ⟨g,0,none⟩ u).setCell ⟨g,1,none⟩ v) a n c L:=h.aside (v:=.slice (some ⟨g,0,none⟩) 0 0) (ds_ hg if_) (cs_ (ce_ w g 0 u) (ce_ _ g 1 v))
theorem law15_to(a:OA_)(n c:Nat)(L:List Fx)(b:OA_)(m d:Nat)(M:List Fx)(w:World)(hU:Fxs w a n c L)(hV:Fxs w b m d M)(ln:n≤1000)(lm:m≤1000):Calls Tryz.prog 12 #[.agg #[.slice a n c,.slice b m d]] w
 (fun e w'=>∃(a':OA_) (c':Nat) (b':OA_) (d':Nat),e=.returned (.agg #[.slice a' n c',.slice b' m d'])∧Fxs w' a' n c' L∧Fxs w' b' m d' M∧Below w.heap.size w w'):=by
 have HTU:∀w':World,Fxs w' a n c L→_:=fun w' h9=>uf_ a n c L w' h9 ln
 have HTV:∀w':World,Fxs w' b m d M→_:=fun w' h9=>uf_ b m d M w' h9 lm
 have HB:=hd_ (ab_ (aa_ w (.cells #[.slice a n c,.slice b m d] 24)) (aa_ _ (.cells #[.slice none 0 0,.slice none 0 0] 35)))
 have X0:Hid (((w.alloc (.cells #[.slice a n c,.slice b m d] 24)).alloc (.cells #[.slice none 0 0,.slice none 0 0] 35)).heap[w.heap.size]? = some (.cells #[.slice a n c,.slice b m d] 24 (0,0))):=hd_ (ac_ (ai_ w _ _) (aa_ _ (.cells #[.slice none 0 0,.slice none 0 0] 35)))
 have R0:Hid (((w.alloc (.cells #[.slice a n c,.slice b m d] 24)).alloc (.cells #[.slice none 0 0,.slice none 0 0] 35)).heap[w.heap.size+1]? = some (.cells #[.slice none 0 0,.slice none 0 0] 35 (0,0))):=hd_ (by have h9:=ai_ (w.alloc (.cells #[.slice a n c,.slice b m d] 24)) #[.slice none 0 0,.slice none 0 0] 35;rwa [al_] at h9)
 have A1:=hd_ (hU.later HB.out)
 have A2:=hd_ (hV.later HB.out)
 clear hU hV
 go_enter Tryz.func12,Tryz.ntmps12
 go_wp2
 generalize (w.alloc (.cells #[.slice a n c,.slice b m d] 24)).alloc (.cells #[.slice none 0 0,.slice none 0 0] 35)=W at *
 replace HB:=bt_ HB (dw_ W)
 replace X0:Hid (W.drew.heap[w.heap.size]? = _):=hd_ X0.out
 replace R0:Hid (W.drew.heap[w.heap.size+1]? = some (.cells #[.slice none 0 0,.slice none 0 0] 35 (0,0))):=hd_ R0.out
 replace A1:=A1.l_ (dw_ W)
 replace A2:=A2.l_ (dw_ W)
 have pSn:=c4_ X0.out
 go_region_held3 (fun w'=>w'.cell? ⟨w.heap.size,0,none⟩=some (.slice a n c)∧w'.cell? ⟨w.heap.size,1,none⟩=some (.slice b m d)) (first | exact pSn | exact pSb _ _)
  (first
  | (go_at_call 60;(first
    | (have pm1:=pM1;refine (HTV _ A2.out).mono ?_;rintro e wp2 ⟨a4,c4,rfl,h4,b⟩;replace HB:=bt_ HB b;replace X0:=bl_ X0 b;replace R0:=bl_ R0 b;replace A1:=A1.l_ b;replace A2:=A2.l_ b;replace P3:=P3.l_ b;have P4:=hd_ h4;clear h4;obtain⟨r0,r1⟩:=bd_ R0.out;have e0:=ae_ R0.out 0;have e1:=ae_ R0.out 1;have pSb:=fun u v=>c4_ (db_ (g:=w.heap.size+1) X0.out (by omega) u v);clear b;clear pSn;have pSn:=c4_ X0.out;clear pM1 pm1;have pM2:=True.intro)
    | (refine (HTU _ A1.out).mono ?_;rintro e wp1 ⟨a3,c3,rfl,h3,b⟩;replace HB:=bt_ HB b;replace X0:=bl_ X0 b;replace R0:=bl_ R0 b;replace A1:=A1.l_ b;replace A2:=A2.l_ b;have P3:=hd_ h3;clear h3;clear b;clear pSn;have pSn:=c4_ X0.out;have pM1:=True.intro))))
 have R9:=hd_ (bj_ R0.out (.slice a3 n c3) (.slice a4 m c4))
 have P9:=hd_ (P3.out.boxed R0.out (.slice a3 n c3) (.slice a4 m c4))
 have Q9:=hd_ (P4.out.boxed R0.out (.slice a3 n c3) (.slice a4 m c4))
 have G9:=hd_ (ay_ HB.out (show w.heap.size≤w.heap.size+1 by omega) (.slice a3 n c3) (.slice a4 m c4))
 go_wp2
 refine bodyPost_ret (results_cell_row Tryz.results12 _ _ (w.heap.size+1) 35 #[.slice a3 n c3,.slice a4 m c4] (0,0) _ rfl R9.out Tryz.underlying35 rfl (by kernel_rfl)) rfl ?_
 exact⟨a3,c3,a4,c4,rfl,P9.out,Q9.out,G9.out⟩
theorem law15_is(a1:OA_)(n1 c1:Nat)(u1:LR_)(b1:OA_)(m1 d1:Nat)(v1:LR_)(a2:OA_)(n2 c2:Nat)(u2:LR_)(b2:OA_)(m2 d2:Nat)(v2:LR_)(r:Bool)(w:World)(ha1:Rw w a1 n1 c1 u1)(hb1:Rw w b1 m1 d1 v1)(ha2:Rw w a2 n2 c2 u2)(hb2:Rw w b2 m2 d2 v2)(ln:n1≤1000)(lm:m1≤1000)(q1:∀q∈u1,qlen q≤15728640000)(q2:∀q∈v1,qlen q≤15728640000)(q3:∀q∈u2,qlen q≤15728640000)(q4:∀q∈v2,qlen q≤15728640000)
 (hr:decide (u1=u2∧v1=v2)=r):Calls Tryz.prog 19 #[.agg #[.slice a1 n1 c1,.slice b1 m1 d1],.agg #[.slice a2 n2 c2,.slice b2 m2 d2]] w (bf_ (.bool r) w):=by
 have HS1:=fun w' h8 h9=>tn_ a1 n1 c1 u1 a2 n2 c2 u2 w' h8 h9 ln q1 q3
 have HS2:=fun w' h8 h9=>tn_ b1 m1 d1 v1 b2 m2 d2 v2 w' h8 h9 lm q2 q4
 have HB:=hd_ (ab_ (aa_ w (.cells #[.slice a1 n1 c1,.slice b1 m1 d1] 35)) (aa_ _ (.cells #[.slice a2 n2 c2,.slice b2 m2 d2] 24)))
 have X0:Hid (((w.alloc (.cells #[.slice a1 n1 c1,.slice b1 m1 d1] 35)).alloc (.cells #[.slice a2 n2 c2,.slice b2 m2 d2] 24)).heap[w.heap.size]? = some (.cells #[.slice a1 n1 c1,.slice b1 m1 d1] 35 (0,0))):=hd_ (ac_ (ai_ w _ _) (aa_ _ (.cells #[.slice a2 n2 c2,.slice b2 m2 d2] 24)))
 have X1:Hid (((w.alloc (.cells #[.slice a1 n1 c1,.slice b1 m1 d1] 35)).alloc (.cells #[.slice a2 n2 c2,.slice b2 m2 d2] 24)).heap[w.heap.size+1]? = some (.cells #[.slice a2 n2 c2,.slice b2 m2 d2] 24 (0,0))):=hd_ (by have h9:=ai_ (w.alloc (.cells #[.slice a1 n1 c1,.slice b1 m1 d1] 35)) #[.slice a2 n2 c2,.slice b2 m2 d2] 24;rwa [al_] at h9)
 have A1:=hd_ (ha1.later HB.out)
 have B1:=hd_ (hb1.later HB.out)
 have A2:=hd_ (ha2.later HB.out)
 have B2:=hd_ (hb2.later HB.out)
 obtain⟨x0,x1⟩:=bd_ X0.out
 obtain⟨x2,x3⟩:=bd_ X1.out
 clear ha1 hb1 ha2 hb2 q1 q2 q3 q4
 by_cases hu:u1=u2
 ·rw[decide_eq_true hu] at HS1
  have hv:decide (v1=v2)=r:=by rw[←hr];exact decide_eq_decide.2 ⟨fun h=>⟨hu,h⟩,fun h=>h.2⟩
  rw[hv] at HS2
  clear hr hv hu
  go_enter Tryz.func19,Tryz.ntmps19
  go_wp2_with fail
  refine (HS1 _ A1.out A2.out).mono ?_
  rintro e w1 ⟨rfl,bw⟩
  clear x0 x1 x2 x3 HS1
  replace HB:=bt_ HB bw
  replace X0:=bl_ X0 bw
  replace X1:=bl_ X1 bw
  replace B1:=B1.l_ bw
  replace B2:=B2.l_ bw
  clear bw
  obtain⟨x0,x1⟩:=bd_ X0.out
  obtain⟨x2,x3⟩:=bd_ X1.out
  go_wp2_with fail
  refine (HS2 _ B1.out B2.out).mono ?_
  rintro e w2 ⟨rfl,bw⟩
  replace HB:=bt_ HB bw
  clear bw x0 x1 x2 x3 X0 X1
  go_wp2
  go_ret
  exact⟨rfl,HB.out⟩
 ·rw[decide_eq_false hu] at HS1
  have hrf:r=false:=by rw[←hr];exact decide_eq_false (fun h=>hu h.1)
  subst hrf
  clear hr hu HS2
  go_enter Tryz.func19,Tryz.ntmps19
  go_wp2_with fail
  refine (HS1 _ A1.out A2.out).mono ?_
  rintro e w1 ⟨rfl,bw⟩
  clear x0 x1 x2 x3 HS1
  replace HB:=bt_ HB bw
  clear bw X0 X1 B1 B2 A1 A2
  go_wp2
  go_ret
  exact⟨rfl,HB.out⟩
structure FigureSaid:Prop where
structure RowSaid:Prop where
structure PolySaid:Prop where
 norm:∀(a:OA_) (n c:Nat) (L:List Fx) (w:World),Fxs w a n c L→n≤300→thin 2000000000 L→Calls Tryz.prog 95 #[.slice a n c] w (b5_ (ah_ (fqs L)) w)
 degree:∀(a:OA_) (n c:Nat) (L:List Fx) (w:World),Fxs w a n c L→n≤300→thin 2000000000 L→Calls Tryz.prog 61 #[.slice a n c] w (bf_ (.int .i64 ((plen (fqs L):Int) - 1)) w)
 same:∀(a:OA_) (n c:Nat) (L:List Fx) (b:OA_) (m d:Nat) (M:List Fx) (w:World),Fxs w a n c L→Fxs w b m d M→n≤300→m≤300→thin 1900000000 L→thin 1900000000 M→Calls Tryz.prog 74 #[.slice a n c,.slice b m d] w (bf_ (.bool (decide (ah_ (fqs L)=ah_ (fqs M)))) w)
 sub:∀(a:OA_) (n c:Nat) (L:List Fx) (b:OA_) (m d:Nat) (M:List Fx) (w:World),Fxs w a n c L→Fxs w b m d M→n≤300→m≤300→thin 900000000 L→thin 900000000 M→Calls Tryz.prog 78 #[.slice a n c,.slice b m d] w (b5_ (ah_ (psub (fqs L) (fqs M))) w)
 mul:∀(a:OA_) (n c:Nat) (L:List Fx) (b:OA_) (m d:Nat) (M:List Fx) (N K:Nat) (w:World),Fxs w a n c L→Fxs w b m d M→n≤100→m≤100→thin N L→thin K M→(n+1) * (N+K+8)≤1900000000→Calls Tryz.prog 75 #[.slice a n c,.slice b m d] w (b5_ (ah_ (pmul (fqs L) (fqs M))) w)
 scale:∀(v:Value) (q:Rat) (a:OA_) (n c:Nat) (L:List Fx) (w:World),Fr w v q 900000000→Fxs w a n c L→n≤300→thin 900000000 L→Calls Tryz.prog 64 #[v,.slice a n c] w (b5_ (ah_ (ag_ q (fqs L))) w)
 eval:∀(a:OA_) (n c:Nat) (L:List Fx) (v:Value) (q:Rat) (N X:Nat) (w:World),Fxs w a n c L→Fr w v q X→n≤100→thin N L→(n+1) * ((n+1) * (X+8)+N+8)≤1900000000→Calls Tryz.prog 112 #[.slice a n c,v] w (LstQ (ar_ q (fqs L)) w)
 diff:∀(a:OA_) (n c:Nat) (L:List Fx) (w:World),Fxs w a n c L→n≤300→thin 1900000000 L→Calls Tryz.prog 77 #[.slice a n c] w (b5_ (ah_ (bw_ (fqs L))) w)
 div_more:∀(a:OA_) (n c:Nat) (L:List Fx) (b:OA_) (m d:Nat) (M:List Fx) (k l:Rat) (P Z:LR_) (S T:Nat) (w:World),Fxs w a n c L→Fxs w b m d M→n≤60→m≤60→thin 1900000000 L→thin 1900000000 M→Ints P (pw S)→Ints Z (pw S)→peq (fqs L) (ag_ k P)→peq (fqs M) (ag_ l Z)→4 * (qlen k+qlen l+(n+4) * (S+3))≤T→T≤1900000000→Hid (plen (fqs M)≠0)→Calls Tryz.prog 107 #[.slice a n c,.slice b m d] w (LstDiv (fqs L) (fqs M) T w)
 gcd_more:∀(a:OA_) (n c:Nat) (L:List Fx) (b:OA_) (m d:Nat) (M:List Fx) (g s S h:Nat) (w:World),Fxs w a n c L→Fxs w b m d M→n≤h→m≤h→h≤300→thin 1900000000 L→thin 1900000000 M→0 < g→g≤pw s→Ints (ag_ ((g:Nat):Rat) (fqs L)) (pw s)→Ints (ag_ ((g:Nat):Rat) (fqs M)) (pw s)→(s+1) * (plen (fqs L)+plen (fqs M)+1)=S→(2 * h+20) * (S+3)≤1900000000→Calls Tryz.prog 106 #[.slice a n c,.slice b m d] w (p3_ (fqs L) (fqs M) (S+2) w)
def ReadAt (l:List UInt8) (f i:Nat) (V:LR_):Prop:=
 (f≤i∧i≤l.length∧i - f≤mw_ (l.drop f)∧kv_ (g2_ l)=kv_ (g2_ (l.drop f))∧ko_ 0 (g2_ l)=ko_ f (g2_ (l.drop f))∧(g2_ l).map uj_=V ++ (g2_ (l.drop f)).map uj_)∨
 (i=l.length+1∧f=i∧kv_ (g2_ l)=0∧(g2_ l).map uj_=V)
theorem nx_:∀(P:List (List UInt8)) (off:Nat),kv_ P=0→ko_ off P=0
 | [],_,_=>rfl
 | p :: P,off,h=>by
   rw[kv_] at h
   split at h
   ·rename_i h2;exact absurd h h2
   ·rename_i h2
    rw[ko_,if_neg h2]
    exact nx_ P _ h
theorem ReadAt.start(l:List UInt8):ReadAt l 0 0 []:=.inl ⟨Nat.le_refl _,Nat.zero_le _,Nat.zero_le _,rfl,rfl,rfl⟩
theorem ReadAt.bound{l:List UInt8}{f i:Nat}{V:List Rat}(h:ReadAt l f i V):f≤i∧i≤l.length+1:=by
 rcases h with h | h
 ·exact⟨h.1,Nat.le_succ_of_le h.2.1⟩
 ·exact⟨Nat.le_of_eq h.2.1,Nat.le_of_eq h.1⟩
theorem ReadAt.done{l:List UInt8}{f i:Nat}{V:List Rat}(h:ReadAt l f i V)(hl:l≠[])(hi:l.length < i):rowKind l=0∧ts_ l=0∧rowVals l=V:=by
 rcases h with h | ⟨_,_,h1,h2⟩
 ·omega
 ·refine ⟨?_,?_,?_⟩
  ·unfold rowKind;rw[if_neg hl];exact h1
  ·unfold ts_;rw[if_neg hl];exact nx_ _ _ h1
  ·unfold rowVals;rw[if_neg (by rintro (h | h);exact hl h;exact h h1)];exact h2

def Pv (w:World) (a:OA_) (n c:Nat) (P:LR_) (N:Nat):Prop:=∃L,Fxs w a n c L∧fqs L=P∧thin N L
theorem Pv.later{w w':World}{a:Option Addr}{n c N:Nat}{P:List Rat}(h:Pv w a n c P N)(hb:Below w.heap.size w w'):Pv w' a n c P N:=by
 obtain⟨L,h1,h2⟩:=h
 exact⟨L,h1.later hb,h2⟩
theorem Pv.l_ {w w':World}{x0 x1 x2 x3 x4}(h:Pv w x0 x1 x2 x3 x4)(b:Below w.heap.size w w'):Hid (Pv w' x0 x1 x2 x3 x4):=Lib.hid (h.later b)
theorem Pv.len{w:World}{a:Option Addr}{n c N:Nat}{P:List Rat}(h:Pv w a n c P N):P.length=n:=by
 obtain⟨L,h1,rfl,_⟩:=h
 rw[aw_];exact h1.len
theorem Pv.bound{w:World}{a:Option Addr}{n c N:Nat}{P:List Rat}(h:Pv w a n c P N):n≤c∧c≤9223372036854775807:=by
 obtain⟨L,h1,_⟩:=h
 exact h1.bound
theorem Pv.of{w:World}{a:Option Addr}{n c N:Nat}{L:List Fx}(h:Fxs w a n c L)(ht:thin N L):Pv w a n c (fqs L) N:=⟨L,h,rfl,ht⟩
theorem Pv.right{w:World}{a:Option Addr}{n c N:Nat}{P:List Rat}(h:Rw w a n c P)(hq:∀q∈P,qlen q≤N):Pv w a n c P N:=by
 obtain⟨L,h1,h2,h3⟩:=h.thin hq
 exact⟨L,h1,h2,h3⟩
theorem Pv.nil(w:World)(N:Nat):Pv w none 0 0 [] N:=⟨[],⟨rfl,Nat.le_refl _,by omega,fun _=>rfl,fun x hx=>by (simp at hx),.inl rfl⟩,rfl,fun x hx=>by simp at hx⟩
theorem Pv.more{w:World}{a:Option Addr}{n c N K:Nat}{P:List Rat}(h:Pv w a n c P N)(hk:N≤K):Pv w a n c P K:=by
 obtain⟨L,h1,h2,h3⟩:=h
 exact⟨L,h1,h2,h3.mono hk⟩
theorem Pv.qlen{w:World}{a:Option Addr}{n c N:Nat}{P:List Rat}(h:Pv w a n c P N):∀q∈P,Go.Proofs.YtocebjbjnfammaaGreat.qlen q≤N+1:=by
 obtain⟨L,h1,rfl,h3⟩:=h
 intro q hq
 obtain⟨x,hx,rfl⟩:=List.mem_map.1 hq
 exact ((h1.ok hx).fr (h3 x hx).1 (h3 x hx).2).len
theorem norm_pv(S:PolySaid){w:World}{a:Option Addr}{n c N:Nat}{P:List Rat}(h:Pv w a n c P N)(hn:n≤300)(hN:N≤1900000000):Calls Tryz.prog 95 #[.slice a n c] w (b5_ (ah_ P) w):=by
 obtain⟨L,h1,rfl,h3⟩:=h
 exact S.norm a n c L w h1 hn (h3.mono (by omega))
theorem jw_(S:PolySaid){w:World}{a:Option Addr}{n c N:Nat}{P:List Rat}(h:Pv w a n c P N)(hn:n≤300)(hN:N≤1900000000):Calls Tryz.prog 61 #[.slice a n c] w (bf_ (.int .i64 ((plen P:Int) - 1)) w):=by
 obtain⟨L,h1,rfl,h3⟩:=h
 exact S.degree a n c L w h1 hn (h3.mono (by omega))
theorem same_pv(S:PolySaid){w:World}{a b:Option Addr}{n c m d N K:Nat}{P Q:List Rat}(h:Pv w a n c P N)(k:Pv w b m d Q K)(hn:n≤300)(hm:m≤300)(hN:N≤1900000000)(hK:K≤1900000000):Calls Tryz.prog 74 #[.slice a n c,.slice b m d] w (bf_ (.bool (decide (ah_ P=ah_ Q))) w):=by
 obtain⟨L,h1,rfl,h3⟩:=h
 obtain⟨M,k1,rfl,k3⟩:=k
 exact S.same a n c L b m d M w h1 k1 hn hm (h3.mono hN) (k3.mono hK)
theorem sub_pv(S:PolySaid){w:World}{a b:Option Addr}{n c m d N K:Nat}{P Q:List Rat}(h:Pv w a n c P N)(k:Pv w b m d Q K)(hn:n≤300)(hm:m≤300)(hN:N≤900000000)(hK:K≤900000000):Calls Tryz.prog 78 #[.slice a n c,.slice b m d] w (b5_ (ah_ (psub P Q)) w):=by
 obtain⟨L,h1,rfl,h3⟩:=h
 obtain⟨M,k1,rfl,k3⟩:=k
 exact S.sub a n c L b m d M w h1 k1 hn hm (h3.mono hN) (k3.mono hK)
theorem q2_(S:PolySaid){w:World}{a b:Option Addr}{n c m d N K:Nat}{P Q:List Rat}(h:Pv w a n c P N)(k:Pv w b m d Q K)(hn:n≤100)(hm:m≤100)(hb:(n+1) * (N+K+8)≤1900000000):Calls Tryz.prog 75 #[.slice a n c,.slice b m d] w (b5_ (ah_ (pmul P Q)) w):=by
 obtain⟨L,h1,rfl,h3⟩:=h
 obtain⟨M,k1,rfl,k3⟩:=k
 exact S.mul a n c L b m d M N K w h1 k1 hn hm h3 k3 hb
theorem eval_pv(S:PolySaid){w:World}{a:Option Addr}{n c N X:Nat}{P:List Rat}{v:Value}{q:Rat}(h:Pv w a n c P N)(k:Fr w v q X)(hn:n≤100)(hb:(n+1) * ((n+1) * (X+8)+N+8)≤1900000000):Calls Tryz.prog 112 #[.slice a n c,v] w (LstQ (ar_ q P) w):=by
 obtain⟨L,h1,rfl,h3⟩:=h
 exact S.eval a n c L v q N X w h1 k hn h3 hb
theorem diff_pv(S:PolySaid){w:World}{a:Option Addr}{n c N:Nat}{P:List Rat}(h:Pv w a n c P N)(hn:n≤300)(hN:N≤1900000000):Calls Tryz.prog 77 #[.slice a n c] w (b5_ (ah_ (bw_ P)) w):=by
 obtain⟨L,h1,rfl,h3⟩:=h
 exact S.diff a n c L w h1 hn (h3.mono hN)
def ppow (u:LR_):Nat→List Rat
 | 0=>[1]
 | k+1=>pmul (ppow u k) u
theorem rk_{u:List Rat}(h:plen u≠0):∀k,plen (ppow u k)≠0
 | 0=>by show plen [1]≠0;rw[et_ (by decide)];decide
 | k+1=>h6_ (rk_ h k) h
theorem isF.times{A B x y u v x' y':List Rat}(h:isF A B x y)(hB:plen B≠0)(hv:plen v≠0)(h':isF (pmul x u) (pmul y v) x' y'):isF (pmul A u) (pmul B v) x' y':=by
 refine h'.cross (h6_ h.1.v0 hv) (h6_ hB hv) (aq_ fun z=>?_)
 have e:=ak_ z (h.2.2 hB)
 simp only[af_] at e ⊢
 grind
theorem Fz.pow{u v:List Rat}{h r:Nat}(f:Fz u v h r)(hh:h≤1000):∀k,k≤100→Fz (ppow u k) (ppow v k) (1+k * h) (2+k * (r+2))
 | 0,_=>by
   have hq1:∀x∈[(1:Rat)],Go.Proofs.YtocebjbjnfammaaGreat.qlen x≤1:=fun x hx=>by
    rw[List.mem_singleton.1 hx]
    refine ez_ ?_ ?_
    ·show (dg 1).length≤1
     rw[fk_ (by decide) (by decide)];exact Nat.le_refl _
    ·show (dg 1).length≤1
     rw[fk_ (by decide) (by decide)];exact Nat.le_refl _
   exact Fz.of (N:=1) (n:=1) (m:=1) hq1 hq1 (Nat.le_refl 1) (Nat.le_refl 1) (by omega) (by omega) (by omega)
 | k+1,hk=>by
   have h1:k * h≤100 * 1000:=Nat.mul_le_mul (by omega) hh
   have:=(f.pow hh k (by omega)).mul f (by omega)
   rw[Nat.add_mul,Nat.one_mul,Nat.add_mul,Nat.one_mul]
   exact this.mono (by omega) (by omega)
def LstFV (U V:LR_) (z:Value) (w:World) (e:Ending) (w':World):Prop:=∃(a:OA_) (n c:Nat) (u:LR_) (b:OA_) (m d:Nat) (v:LR_),e=.returned (.tuple #[.agg #[.slice a n c,.slice b m d],z])∧Rw w' a n c u∧Rw w' b m d v∧isF U V u v∧Below w.heap.size w w'
def Fv (w:World) (a:OA_) (n c:Nat) (b:OA_) (m d:Nat) (u v:LR_) (h s:Nat):Prop:=∃U V,Pv w a n c U (s+2)∧Pv w b m d V (s+2)∧isF U V u v∧Fz U V h s∧Fz u v h s
theorem Fv.later{w w':World}{a:Option Addr}{n c:Nat}{b:Option Addr}{m d:Nat}{u v:List Rat}{h s:Nat}(f:Fv w a n c b m d u v h s)(hb:Below w.heap.size w w'):Fv w' a n c b m d u v h s:=by
 obtain⟨U,V,h1,h2,h3⟩:=f
 exact⟨U,V,h1.later hb,h2.later hb,h3⟩
theorem Fv.l_ {w w':World}{x0 x1 x2 x3 x4 x5 x6 x7 x8 x9}(h:Fv w x0 x1 x2 x3 x4 x5 x6 x7 x8 x9)(b:Below w.heap.size w w'):Hid (Fv w' x0 x1 x2 x3 x4 x5 x6 x7 x8 x9):=Lib.hid (h.later b)
theorem Fv.mono{w:World}{a:Option Addr}{n c:Nat}{b:Option Addr}{m d:Nat}{u v:List Rat}{h s h' s':Nat}(f:Fv w a n c b m d u v h s)(hh:h≤h')(hs:s≤s'):Fv w a n c b m d u v h' s':=by
 obtain⟨U,V,h1,h2,h3,h4,h5⟩:=f
 exact⟨U,V,h1.more (by omega),h2.more (by omega),h3,h4.mono hh hs,h5.mono hh hs⟩
theorem Fv.rf{w:World}{a:Option Addr}{n c:Nat}{b:Option Addr}{m d:Nat}{u v:List Rat}{h s:Nat}(f:Fv w a n c b m d u v h s):Rf u v:=by
 obtain⟨U,V,h1,h2,h3,_⟩:=f
 exact h3.1
theorem Fv.raw{w:World}{a:Option Addr}{n c:Nat}{b:Option Addr}{m d:Nat}{U V u v:List Rat}{h s N:Nat}(hU:Pv w a n c U N)(hV:Pv w b m d V N)(hN:N≤s+2)(hf:isF U V u v)(hz:Fz U V h s)(h1:1≤h)(h2:h≤1000000):Fv w a n c b m d u v h ((s+1) * (2 * h)):=by
 have h3:s≤(s+1) * (2 * h):=Nat.le_trans (Nat.le_succ s) (Nat.le_mul_of_pos_right _ (by omega))
 exact⟨U,V,hU.more (by omega),hV.more (by omega),hf,hz.mono (Nat.le_refl _) h3,hz.right hf h1 h2⟩
theorem Fv.right{w:World}{a:Option Addr}{n c:Nat}{b:Option Addr}{m d:Nat}{u v:List Rat}{h s:Nat}(hu:Rw w a n c u)(hv:Rw w b m d v)(hf:Rf u v)(hz:Fz u v h s)(_:s+2≤1900000000):Fv w a n c b m d u v h s:=⟨u,v,Pv.right hu (fun q hq=>hz.qlen q hq),Pv.right hv (fun q hq=>hz.swap.qlen q hq),hf.isF,hz,hz⟩
abbrev Fok2 (h s k t:Nat):Prop:=Fok (h+k+2) (s+t+30)∧Pok (2 * max h k) (2 * ((s+t+1) * (2 * max h k+1))+3)
structure RatfSaid:Prop where
 norm:∀(a:OA_) (n c:Nat) (b:OA_) (m d:Nat) (u v:LR_) (h s:Nat) (w:World),Fv w a n c b m d u v h s→Fok h s→Calls Tryz.prog 20 #[.agg #[.slice a n c,.slice b m d]] w (LstF u v w)
 new:∀(a:OA_) (n c:Nat) (U:LR_) (b:OA_) (m d:Nat) (V u v:LR_) (h s:Nat) (w:World),Pv w a n c U 1900000000→Pv w b m d V 1900000000→isF U V u v→Fz U V h s→Fok h s→Calls Tryz.prog 13 #[.slice a n c,.slice b m d] w (LstFV u v (.bool (decide (plen V≠0))) w)
 of:∀(x:Value) (q:Rat) (X:Nat) (w:World),Fr w x q X→Fok 2 ((X+1) * 3)→Calls Tryz.prog 28 #[x] w (LstF [q] [1] w)
 line:∀(x:Value) (q:Rat) (y:Value) (r:Rat) (X:Nat) (w:World),Fr w x q X→Fr w y r X→Fok 2 ((X+1) * 3)→Calls Tryz.prog 46 #[x,y] w (LstF [q,r] [1] w)
 zero:∀(a:OA_) (n c:Nat) (b:OA_) (m d:Nat) (u v:LR_) (h s:Nat) (w:World),Fv w a n c b m d u v h s→Fok h s→Calls Tryz.prog 23 #[.agg #[.slice a n c,.slice b m d]] w (bf_ (.bool (decide (u=[]))) w)
 same:∀(a:OA_) (n c:Nat) (b:OA_) (m d:Nat) (u v:LR_) (h s:Nat) (a':OA_) (n' c':Nat) (b':OA_) (m' d':Nat) (x y:LR_) (k t:Nat) (w:World),Fv w a n c b m d u v h s→Fv w a' n' c' b' m' d' x y k t→Fok h s→Fok k t→(h+k+1) * (s+t+20)≤1900000000→Calls Tryz.prog 24 #[.agg #[.slice a n c,.slice b m d],.agg #[.slice a' n' c',.slice b' m' d']] w (bf_ (.bool (decide (u=x∧v=y))) w)
 quo:∀(a:OA_) (n c:Nat) (b:OA_) (m d:Nat) (u v:LR_) (h s:Nat) (a':OA_) (n' c':Nat) (b':OA_) (m' d':Nat) (x y:LR_) (k t:Nat) (w:World),Fv w a n c b m d u v h s→Fv w a' n' c' b' m' d' x y k t→Fok2 h s k t→Calls Tryz.prog 29 #[.agg #[.slice a n c,.slice b m d],.agg #[.slice a' n' c',.slice b' m' d']] w (LstFV (pmul u y) (pmul v x) (.bool (decide (x≠[]))) w)
 eval_yes:∀(a:OA_) (n c:Nat) (b:OA_) (m d:Nat) (u v:LR_) (h s:Nat) (x:Value) (q:Rat) (X:Nat) (w:World),Fv w a n c b m d u v h s→Fr w x q X→Fok h s→(h+1) * ((h+1) * (X+8)+(s+3)+8)≤1900000000→ar_ q v≠0→Calls Tryz.prog 16 #[.agg #[.slice a n c,.slice b m d],x] w (en_ (ar_ q u / ar_ q v) (.bool true) w)
 eval_no:∀(a:OA_) (n c:Nat) (b:OA_) (m d:Nat) (u v:LR_) (h s:Nat) (x:Value) (q:Rat) (X:Nat) (w:World),Fv w a n c b m d u v h s→Fr w x q X→Fok h s→(h+1) * ((h+1) * (X+8)+(s+3)+8)≤1900000000→ar_ q v=0→Calls Tryz.prog 16 #[.agg #[.slice a n c,.slice b m d],x] w (en_ 0 (.bool false) w)
 diff:∀(a:OA_) (n c:Nat) (b:OA_) (m d:Nat) (u v:LR_) (h s:Nat) (w:World),Fv w a n c b m d u v h s→Fok (h+h) (s+s+3)→Calls Tryz.prog 26 #[.agg #[.slice a n c,.slice b m d]] w (LstF (dup u v) (pmul v v) w)
theorem u1_{A B:List Rat}(hB:ah_ B=B)(h0:0 < B.length):∀(n:Nat) (Q R:LR_),R.length≤n→ah_ R=R→peq A (padd (pmul Q B) R)→∃q r,isDiv A B q r∧ah_ r=r:=by
 intro n
 induction n with
 | zero=>exact fun Q R hn hr h=>⟨Q,R,⟨h,by rw[a0_ hr,a0_ hB];omega⟩,hr⟩
 | succ n ih=>
   intro Q R hn hr h
   by_cases hl:R.length < B.length
   ·exact⟨Q,R,⟨h,by rw[a0_ hr,a0_ hB];exact hl⟩,hr⟩
   ·obtain⟨h1,h2⟩:=lh_ hB h0 (by omega) h rfl (peq.refl _) (peq.refl _) (au_ _) (a7_ _)
    exact ih _ _ (by omega) (a7_ _) h1
theorem g4_:∀(n:Nat) (x y:LR_),y.length≤n→ah_ x=x→ah_ y=y→∃g,common x y g:=by
 intro n
 induction n with
 | zero=>
   intro x y hn _ _
   obtain rfl:y=[]:=List.length_eq_zero_iff.1 (by omega)
   exact⟨x,common.none x⟩
 | succ n ih=>
   intro x y hn hx hy
   by_cases h0:y.length=0
   ·obtain rfl:y=[]:=List.length_eq_zero_iff.1 h0
    exact⟨x,common.none x⟩
   ·obtain⟨q,r,hd,hr⟩:=u1_ (A:=x) hy (by omega) x.length [] x (Nat.le_refl _) hx (aq_ fun z=>by rw[a2_,af_];show _=0 * _+_;grind)
    have h1:r.length < y.length:=by
     have:=hd.2
     rwa [a0_ hr,a0_ hy] at this
    obtain⟨g,hg⟩:=ih y r (by omega) hy hr
    exact⟨g,common.step hd.1 hg⟩
theorem g1_(U V:LR_):∃u v,isF U V u v:=by
 by_cases hV:plen V=0
 ·exact⟨[],[1],ic_ (.inr hV)⟩
 ·obtain⟨g,hg⟩:=g4_ _ (ah_ U) (ah_ V) (Nat.le_refl _) (a7_ _) (a7_ _)
  have hc:=hg.of (au_ U) (au_ V) (peq.refl g)
  obtain⟨y,hy⟩:=hc.2.1
  have hg0:plen g≠0:=fun e=>hV (by rw[am_ hy,am_ (a1_ (peq.refl y) (cy_ e)),am_ (d9_ y)];rfl)
  have ht:=dl_ (a:=g) (n:=plen g - 1) (by omega)
  obtain⟨c,hcd⟩:∃c,1 / co g (plen g - 1)=c:=⟨_,rfl⟩
  have hcg:c * co g (plen g - 1)=1:=by rw[←hcd];exact Rat.div_mul_cancel ht
  have hc0:c≠0:=fun e=>by rw[e,Rat.zero_mul] at hcg;exact absurd hcg (by decide)
  have h2:isGcd U V (ag_ c g):=⟨hc.scale hc0,fun n hn=>by
   have h3:plen (ag_ c g)=plen g:=bm_ hc0 g
   have h4:n=plen g - 1:=by omega
   rw[aj_,h4];exact hcg⟩
  obtain⟨x',hx'⟩:=h2.1.1
  obtain⟨y',hy'⟩:=h2.1.2.1
  exact⟨_,_,sv_ h2 hV hx' hy' rfl⟩
structure Rz (u v:LR_) (k l s:Nat):Prop where
 rf:Rf u v
 lu:plen u≤k
 lv:plen v≤l
 fz:Fz u v (max k l) s
theorem Rz.of{U V u v:List Rat}{h s k l:Nat}(f:Fz U V h s)(hf:isF U V u v)(hU:plen U≤k)(hV:plen V≤l)(hl:1≤l)(hkl:k+l≤1000000):Rz u v k l ((s+1) * (k+l)):=by
 have p1:1≤pw ((s+1) * (k+l)):=fi_ _
 by_cases hV0:plen V=0
 ·obtain⟨rfl,rfl⟩:=hf.zero (.inr hV0)
  have h1:plen ([1]:LR_)=1:=et_ (by decide)
  refine ⟨hf.1,by rw[ia_];exact Nat.zero_le _,by rw[h1];exact hl,by simp,by simp;omega,1,by decide,p1,fun i=>⟨0,rfl,Nat.zero_le _⟩,fun i=>?_⟩
  cases i with
  | zero=>exact⟨1,by rw[aj_,show co [1] 0=(1:Rat) from rfl,Rat.mul_one];rfl,p1⟩
  | succ i=>exact⟨0,by rw[aj_,b1_,d8_,Rat.mul_zero];rfl,Nat.zero_le _⟩
 ·obtain⟨c,c1,c2,c3,c4⟩:=f.form
  obtain⟨l1,l2⟩:=hf.lens hV0
  have l5:=a0_ hf.1.ur
  have l6:=a0_ hf.1.vr
  obtain⟨z,k0,k1,k2,k3⟩:=hf.small hV0 (c:=((c:Nat):Rat)) (fun e=>by have h9:c=0:=Rat.natCast_inj.1 (e.trans rfl);omega) c3 c4 (by omega)
  have hp:pw ((s+1) * (plen u+plen v))≤pw ((s+1) * (k+l)):=ch_ (Nat.mul_le_mul_left _ (by omega))
  exact⟨hf.1,by omega,by omega,by omega,by omega,z.natAbs,by omega,Nat.le_trans k1 hp,k2.abs.mono hp,k3.abs.mono hp⟩
theorem Rz.mono{u v:List Rat}{k l s k' l' s':Nat}(f:Rz u v k l s)(hk:k≤k')(hl:l≤l')(hs:s≤s'):Rz u v k' l' s':=⟨f.rf,Nat.le_trans f.lu hk,Nat.le_trans f.lv hl,f.fz.mono (by omega) hs⟩
theorem g5_(a:LR_):plen (bw_ a)≤plen a - 1:=gn_ fun i hi=>by
 rw[dk_,b8_ (a:=a) (by omega)];grind
theorem Fz.minus{u v:List Rat}{h s:Nat}(f:Fz u v h s):Fz (ag_ (-1) u) v h s:=by
 obtain⟨a,b,c,c1,c2,c3,c4⟩:=f
 refine ⟨by rw[a9_];exact a,b,c,c1,c2,fun i=>?_,c4⟩
 obtain⟨z,z1,z2⟩:=c3 i
 refine ⟨-z,?_,by rw[Int.natAbs_neg];exact z2⟩
 rw[aj_] at z1
 rw[aj_,aj_,Rat.intCast_neg,←z1];grind
theorem Rz.add{u v x y a b:List Rat}{k l s k' l' t K D:Nat}(f:Rz u v k l s)(g:Rz x y k' l' t)(h:isF (padd (pmul u y) (pmul x v)) (pmul v y) a b)(hK:k+l' - 1≤K)(hK':k'+l - 1≤K)(hD:l+l' - 1≤D)(hD1:1≤D)(hl:K+D≤1000000)(hm:max k l≤1000000)(hm':max k' l'≤1000000) :
 Rz a b K D ((s+t+3) * (K+D)):=by
 have h1:=b2_ u y
 have h2:=b2_ x v
 have h3:=b2_ v y
 have h4:=hx_ (pmul u y) (pmul x v)
 have:=f.lu;have:=f.lv;have:=g.lu;have:=g.lv
 exact Rz.of (f.fz.add g.fz hm hm') h (by omega) (by omega) hD1 hl
theorem Rz.sub{u v x y a b:List Rat}{k l s k' l' t K D:Nat}(f:Rz u v k l s)(g:Rz x y k' l' t)(h:isF (psub (pmul u y) (pmul x v)) (pmul v y) a b)(hK:k+l' - 1≤K)(hK':k'+l - 1≤K)(hD:l+l' - 1≤D)(hD1:1≤D)(hl:K+D≤1000000)(hm:max k l≤1000000)(hm':max k' l'≤1000000) :
 Rz a b K D ((s+t+3) * (K+D)):=by
 have h1:=b2_ u y
 have h2:=b2_ (ag_ (-1) x) v
 have h3:=b2_ v y
 have h4:=hx_ (pmul u y) (pmul (ag_ (-1) x) v)
 have h5:plen (ag_ (-1) x)=plen x:=bm_ (by decide) x
 have:=f.lu;have:=f.lv;have:=g.lu;have:=g.lv
 refine Rz.of (f.fz.add g.fz.minus hm hm') (h.of (aq_ fun z=>?_) (peq.refl _)) (by omega) (by omega) hD1 hl
 rw[cd_,a2_,af_,af_,af_,ap_];grind
theorem Rz.mul{u v x y a b:List Rat}{k l s k' l' t K D:Nat}(f:Rz u v k l s)(g:Rz x y k' l' t)(h:isF (pmul u x) (pmul v y) a b)(hK:k+k' - 1≤K)(hD:l+l' - 1≤D)(hD1:1≤D)(hl:K+D≤1000000)(hm:max k l≤1000000) :
 Rz a b K D ((s+t+3) * (K+D)):=by
 have h1:=b2_ u x
 have h3:=b2_ v y
 have:=f.lu;have:=f.lv;have:=g.lu;have:=g.lv
 exact Rz.of (f.fz.mul g.fz hm) h (by omega) (by omega) hD1 hl
theorem Rz.quo{u v x y a b:List Rat}{k l s k' l' t K D:Nat}(f:Rz u v k l s)(g:Rz x y k' l' t)(h:isF (pmul u y) (pmul v x) a b)(hK:k+l' - 1≤K)(hD:l+k' - 1≤D)(hD1:1≤D)(hl:K+D≤1000000)(hm:max k l≤1000000) :
 Rz a b K D ((s+t+3) * (K+D)):=by
 have h1:=b2_ u y
 have h3:=b2_ v x
 have:=f.lu;have:=f.lv;have:=g.lu;have:=g.lv
 exact Rz.of (f.fz.mul g.fz.swap hm) h (by omega) (by omega) hD1 hl
theorem Rz.dup{u v a b:List Rat}{k l s K D:Nat}(f:Rz u v k l s)(h:isF (Go.Proofs.YtocebjbjnfammaaGreat.dup u v) (pmul v v) a b)(hk:1≤k)(hK:k+l - 2≤K)(hD:l+l - 1≤D)(hD1:1≤D)(hl:K+D≤1000000)(hm:max k l≤1000000) :
 Rz a b K D ((s+s+4) * (K+D)):=by
 have h1:=b2_ (bw_ u) v
 have h2:=b2_ u (bw_ v)
 have h3:=b2_ v v
 have h4:plen (Go.Proofs.YtocebjbjnfammaaGreat.dup u v)≤max (plen (pmul (bw_ u) v)) (plen (pmul u (bw_ v))):=gn_ fun i hi=>by
  show co (psub (pmul (bw_ u) v) (pmul u (bw_ v))) i=0
  rw[d6_,b8_ (a:=pmul (bw_ u) v) (by omega),b8_ (a:=pmul u (bw_ v)) (by omega)];grind
 have h5:=g5_ u
 have h6:=g5_ v
 have:=f.lu;have:=f.lv;have:=f.rf.v0
 exact Rz.of (f.fz.dup hm) h (by omega) (by omega) hD1 hl
theorem Fr.len_max{w:World}{v:Value}{q:Rat}{N:Nat}(h:Fr w v q N)(hN:1≤N):qlen q≤N:=by
 obtain⟨neg,a,n,cap,la,b,m,cap',lb,rfl,ha,hb,hn,hm,rfl⟩:=h
 by_cases hv:val lb=0
 ·rw[ef_ neg (.inl hv)]
  refine ez_ ?_ ?_
  ·show (dg (0:Nat)).length≤_
   rw[cu_];exact Nat.zero_le _
  ·show (dg (1:Nat)).length≤_
   have:=hc_;omega
 ·obtain⟨h1,h2⟩:=e9_ neg (u:=val la) hv
  refine ez_ ?_ ?_
  ·rw[h1,d0_]
   exact Nat.le_trans (ax_ (Nat.div_le_self _ _)) (Nat.le_trans ha.trim_le (by omega))
  ·rw[h2]
   exact Nat.le_trans (ax_ (Nat.div_le_self _ _)) (Nat.le_trans hb.trim_le (by omega))
theorem Pv.qlen_max{w:World}{a:Option Addr}{n c N:Nat}{P:List Rat}(h:Pv w a n c P N)(hN:1≤N):∀q∈P,Go.Proofs.YtocebjbjnfammaaGreat.qlen q≤N:=by
 obtain⟨L,h1,rfl,h3⟩:=h
 intro q hq
 obtain⟨x,hx,rfl⟩:=List.mem_map.1 hq
 exact ((h1.ok hx).fr (h3 x hx).1 (h3 x hx).2).len_max hN
theorem Fv.arg{w:World}{a:Option Addr}{n c:Nat}{b:Option Addr}{m d:Nat}{U V u v:List Rat}{k:Nat}(hU:Pv w a n c U 1)(hV:Pv w b m d V 1)(hn:n≤k)(hm:m≤k)(h1:1≤k)(h2:k≤1000)(hf:isF U V u v):Fv w a n c b m d u v k ((k+k+1) * (2 * k))∧Rz u v k k ((k+k+1) * (k+k)):=by
 have hz:Fz U V k (k+k):=Fz.of (N:=1) (n:=k) (m:=k) (hU.qlen_max (Nat.le_refl _)) (hV.qlen_max (Nat.le_refl _)) (by rw[hU.len];exact hn) (by rw[hV.len];exact hm) (Nat.le_refl _) (Nat.le_refl _) (by omega)
 have l1:=bb_ U
 have l2:=bb_ V
 rw[hU.len] at l1
 rw[hV.len] at l2
 exact⟨Fv.raw hU hV (by omega) hf hz h1 (by omega),Rz.of hz hf (by omega) (by omega) h1 (by omega)⟩
theorem rdiv_eq{a b c d:Rat}(hb:b≠0)(hd:d≠0)(h:a * d=b * c):a / b=c / d:=by
 have h1:a / b * b=a:=Rat.div_mul_cancel hb
 have h2:c / d * d=c:=Rat.div_mul_cancel hd
 generalize a / b=x at *
 generalize c / d=y at *
 have h3:(x - y) * (b * d)=0:=by grind
 rcases Rat.mul_eq_zero.1 h3 with h | h
 ·grind
 ·rcases Rat.mul_eq_zero.1 h with h | h
  ·exact absurd h hb
  ·exact absurd h hd
theorem isF.val{U V u v:List Rat}(h:isF U V u v){x:Rat}(hx:ar_ x V≠0):ar_ x v≠0∧ar_ x u / ar_ x v=ar_ x U / ar_ x V:=
 ⟨(h.value hx).1,rdiv_eq (h.value hx).1 hx (h.value hx).2⟩
def LstX (u v:LR_) (w:World) (e:Ending) (w':World):Prop:=∃(a:OA_) (n c:Nat) (b:OA_) (m d:Nat),e=.returned (.agg #[.slice a n c,.slice b m d])∧Rw w' a n c u∧Rw w' b m d v∧Below w.heap.size w w'
def LstXV (u v:LR_) (z:Value) (w:World) (e:Ending) (w':World):Prop:=∃(a:OA_) (n c:Nat) (b:OA_) (m d:Nat),e=.returned (.tuple #[.agg #[.slice a n c,.slice b m d],z])∧Rw w' a n c u∧Rw w' b m d v∧Below w.heap.size w w'
theorem LstF.just{U V u v:List Rat}(h:isF U V u v){w w':World}{e:Ending}(k:LstF U V w e w'):LstX u v w e w':=by
 obtain⟨a,n,c,x,b,m,d,y,rfl,h1,h2,h3,h4⟩:=k
 obtain⟨rfl,rfl⟩:=h.same h3
 exact⟨a,n,c,b,m,d,rfl,h1,h2,h4⟩
theorem LstFV.just{U V u v:List Rat}{z:Value}(h:isF U V u v){w w':World}{e:Ending}(k:LstFV U V z w e w'):LstXV u v z w e w':=by
 obtain⟨a,n,c,x,b,m,d,y,rfl,h1,h2,h3,h4⟩:=k
 obtain⟨rfl,rfl⟩:=h.same h3
 exact⟨a,n,c,b,m,d,rfl,h1,h2,h4⟩
theorem n9_{u:List Rat}(h:ah_ u=u):Rf u [1]:=⟨h,by decide +kernel,by rw[et_ (by decide)];decide,by rw[et_ (by decide)];rfl,[],[1],aq_ fun x=>by
 rw[a2_,af_,af_,bs_];show 0 * _+_=_;grind⟩
theorem s2_:Rf [1] [0,1]:=⟨by decide +kernel,by decide +kernel,by decide +kernel,by decide +kernel,[1],[],aq_ fun x=>by
 rw[a2_,af_,af_,bs_];show _+0 * _=_;grind⟩
theorem ex15_quo:isF (pmul [0,1] [1]) (pmul [1] [0,2]) [1 / 2] [1]:=⟨n9_ (by decide +kernel),fun h=>absurd h (by decide +kernel),fun _=>aq_ fun x=>by
 simp only[af_,bs_]
 show 1 / 2 * (1 * (0+x * (2+x * 0)))=1 * ((0+x * (1+x * 0)) * 1)
 grind⟩
theorem ex15_over:isF (pmul [1] [1]) (pmul [1] [0,1]) [1] [0,1]:=⟨s2_,fun h=>absurd h (by decide +kernel),fun _=>aq_ fun x=>by
 rw[af_,af_,af_,af_,bs_];grind⟩
theorem jt_{u v:List Rat}(hu:∀q∈u,qlen q≤2)(hv:∀q∈v,qlen q≤2)(lu:u.length≤2)(lv:v.length≤2):Fz u v 2 8:=Fz.of (N:=2) (n:=2) (m:=2) hu hv lu lv (Nat.le_refl _) (Nat.le_refl _) (Nat.le_refl _)
theorem rs_:qlen (1 / 2:Rat)≤2:=by
 have h1:(1 / 2:Rat)=((1:Int):Rat) / ((2:Int):Rat):=by decide +kernel
 rw[h1,Rat.div_def]
 have h2:qlen ((1:Int):Rat)≤2:=b4_ (by decide)
 refine ez_ ?_ ?_
 ·show (dg (((1:Int):Rat) * ((2:Int):Rat)⁻¹).num.natAbs).length≤2
  rw[show (((1:Int):Rat) * ((2:Int):Rat)⁻¹).num.natAbs=1 by decide +kernel,fk_ (by decide) (by decide)];decide
 ·show (dg (((1:Int):Rat) * ((2:Int):Rat)⁻¹).den).length≤2
  rw[show (((1:Int):Rat) * ((2:Int):Rat)⁻¹).den=2 by decide +kernel,fk_ (by decide) (by decide)];decide
theorem bx_{w:World}{A0 A1 A2:Nat}{c0_0 c0_1 c1_0 c1_1 c2_0 c2_1 c2_2:Value}{t0 t1 t2:TypeId}(h0:w.heap[A0]? = some (.cells #[c0_0,c0_1] t0 (0,0)))(h1:w.heap[A1]? = some (.cells #[c1_0,c1_1] t1 (0,0)))(h2:w.heap[A2]? = some (.cells #[c2_0,c2_1,c2_2] t2 (0,0))):w.cell? ⟨A0,0,none⟩=some c0_0∧w.cell? ⟨A0,1,none⟩=some c0_1∧w.cell? ⟨A1,0,none⟩=some c1_0∧w.cell? ⟨A1,1,none⟩=some c1_1∧w.cell? ⟨A2,0,none⟩=some c2_0∧w.cell? ⟨A2,1,none⟩=some c2_1∧w.cell? ⟨A2,2,none⟩=some c2_2:=⟨ad_ h0 0,ad_ h0 1,ad_ h1 0,ad_ h1 1,ad_ h2 0,ad_ h2 1,ad_ h2 2⟩
theorem is_{w:World}{A0 A1 A2 A3:Nat}{c0_0 c0_1 c1_0 c1_1 c2_0 c2_1 c2_2 c3_0 c3_1:Value}{t0 t1 t2 t3:TypeId}(h0:w.heap[A0]? = some (.cells #[c0_0,c0_1] t0 (0,0)))(h1:w.heap[A1]? = some (.cells #[c1_0,c1_1] t1 (0,0)))(h2:w.heap[A2]? = some (.cells #[c2_0,c2_1,c2_2] t2 (0,0)))(h3:w.heap[A3]? = some (.cells #[c3_0,c3_1] t3 (0,0))):w.cell? ⟨A0,0,none⟩=some c0_0∧w.cell? ⟨A0,1,none⟩=some c0_1∧w.cell? ⟨A1,0,none⟩=some c1_0∧w.cell? ⟨A1,1,none⟩=some c1_1∧w.cell? ⟨A2,0,none⟩=some c2_0∧w.cell? ⟨A2,1,none⟩=some c2_1∧w.cell? ⟨A2,2,none⟩=some c2_2∧w.cell? ⟨A3,0,none⟩=some c3_0∧w.cell? ⟨A3,1,none⟩=some c3_1:=⟨ad_ h0 0,ad_ h0 1,ad_ h1 0,ad_ h1 1,ad_ h2 0,ad_ h2 1,ad_ h2 2,ad_ h3 0,ad_ h3 1⟩
theorem kz_{A X:Nat}{x:Rat}(hx:qlen x≤X):∀{l:List Rat},(∀q∈l,qlen q≤A)→qlen (ar_ x l)≤1+l.length * (A+X+3)
 | [],_=>by
   show qlen 0≤_
   rw[cw_];omega
 | c :: l,h=>by
   have h1:=kz_ hx (l:=l) (fun q hq=>h q (List.mem_cons_of_mem _ hq))
   have h2:=h c (List.mem_cons_self ..)
   have h3:=ci_ x (ar_ x l)
   have h4:=fm_ c (x * ar_ x l)
   rw[ar_,List.length_cons,Nat.add_mul];omega
end Go.Proofs.YtocebjbjnfammaaGreat
