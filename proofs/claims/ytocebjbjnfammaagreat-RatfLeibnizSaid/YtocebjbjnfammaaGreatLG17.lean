import Derived.Test.YtocebjbjnfammaaGreatLG16
import Derived.Test.YtocebjbjnfammaaGreatLG6
import Derived.Test.YtocebjbjnfammaaGreatLG7
import Derived.Test.YtocebjbjnfammaaGreatLG3
import Derived.Deep.RegionHeld3
import Derived.Test.YtocebjbjnfammaaGreatLG13
import Derived.Test.YtocebjbjnfammaaGreatLG5
import Derived.Test.YtocebjbjnfammaaGreatLG4
import Derived.Test.YtocebjbjnfammaaGreatLG2
import Derived.Test.YtocebjbjnfammaaGreatLG1
set_option maxRecDepth 4096
set_option maxHeartbeats 16000000
namespace Go.Proofs.YtocebjbjnfammaaGreat
open Go.RowKit
theorem Rw.part{w:World}{a:Option Addr}{n cap:Nat}{qs:List Rat}(h:Rw w a n cap qs){k:Nat}(hk:k≤n):Rw w a k cap (qs.take k):=by
 obtain⟨L,h1,h2,h3⟩:=h
 exact⟨L.take k,h1.take hk,by rw[List.map_take,h2],fun x hx=>h3 x (List.mem_of_mem_take hx)⟩
theorem Rw.used{w:World}{a:Option Addr}{n cap:Nat}{qs:List Rat}(h:Rw w a n cap qs):Rw w a (plen qs) cap (aj_ qs):=by
 have h1:=h.part (k:=plen qs) (by rw[←h.len];exact a4_ qs)
 rwa [show qs.take (plen qs)=aj_ qs from (c5_ qs).symm] at h1
theorem gb_(a:OA_)(n c:Nat)(qs:LR_)(w:World)(h:Rw w a n c qs)(hn:n≤1000)(hq:∀q∈qs,qlen q≤2097152000):Calls Tryz.prog 109 #[.slice a n c] w (fun e w'=>e=.returned (.slice a (plen qs) c)∧Rw w' a (plen qs) c (aj_ qs)∧Below w.heap.size w w'):=by
 obtain⟨L,h1,h2,h3⟩:=h.thin hq
 have h4:=dm_ a n c L w h1 hn h3
 rw[h2] at h4
 exact h4.mono fun e w' h9=>⟨h9.1,h.used.later h9.2,h9.2⟩
theorem ng_(a:OA_)(n c:Nat)(L:List Fx)(w:World)(h:Fxs w a n c L)(hn:n≤1000)(ht:thin 2097152000 L):Calls Tryz.prog 109 #[.slice a n c] w (fun e w'=>e=.returned (.slice a (plen (fqs L)) c)∧Fxs w' a (plen (fqs L)) c (L.take (plen (fqs L)))∧Below w.heap.size w w'):=
 (dm_ a n c L w h hn ht).mono fun _ _ h9=>⟨h9.1,(h.take (br_ h)).later h9.2,h9.2⟩
theorem k5_(v:Value)(z:Rat)(a:OA_)(n c:Nat)(L:List Fx)(w:World)(hv:Fr w v z 900000000)(h:Fxs w a n c L)(hn:n≤300)(ht:thin 900000000 L):Calls Tryz.prog 64 #[v,.slice a n c] w (cw_ (aj_ (af_ z (fqs L))) w):=by
 have hbd:=h.bound
 have hk:=br_ h
 have hzl:qlen z≤900000001:=hv.len
 have hT9:∀q∈af_ z (aj_ (fqs L)),qlen q≤2097152000:=fun q hq=>Nat.le_trans (et_ (A:=900000001) hzl (fun x hx=>ht.qs h.oks x (hr_ hx)) q hq) (by decide)
 obtain⟨vs,va,vn,vc,vla,vb,vm,vd,vlb,rfl,hv1,hv2,hvn,hvm,hvq⟩:=hv
 have HVQ:=hd_ hvq
 have HU:∀w':World,Fxs w' a n c L→Calls Tryz.prog 109 #[.slice a n c] w' (fun e w''=>e=.returned (.slice a (plen (fqs L)) c)∧Fxs w'' a (plen (fqs L)) c (L.take (plen (fqs L)))∧Below w'.heap.size w' w''):=fun w' h9=>ng_ a n c L w' h9 (by omega) (ht.mono (by decide))
 have hT:∃T,af_ z (aj_ (fqs L))=T:=⟨_,rfl⟩
 have HS:∀w':World,Fxs w' a (plen (fqs L)) c (L.take (plen (fqs L)))→Wd w' va vn vc vla→Wd w' vb vm vd vlb→Calls Tryz.prog 110 #[.agg #[.bool vs,.slice va vn vc,.slice vb vm vd],.slice a (plen (fqs L)) c] w' (cw_ (af_ z (aj_ (fqs L))) w'):=fun w' h9 h8 h7=>by
  have h6:=fy_ (frV vs va vn vc vb vm vd) z a (plen (fqs L)) c (L.take (plen (fqs L))) w' (Fr.of h8 h7 (by omega) (by omega) HVQ.out) h9 (by omega) (c4_ (ht.mono (by decide)) _)
  rwa [ei_] at h6
 have HNL:Hid ((af_ z (aj_ (fqs L))).length≤1000):=hd_ (by rw[a6_];have:(aj_ (fqs L)).length=plen (fqs L):=rfl;omega)
 have HPN:Hid (aj_ (af_ z (fqs L))=aj_ (af_ z (aj_ (fqs L)))):=hd_ (bj_ (bs_ z (ar_ _).symm))
 rw[HPN.out]
 clear HPN
 obtain⟨T,hT⟩:=hT
 rw[hT] at HNL hT9 ⊢
 simp only[hT] at HS
 have HUR:∀(w':World) (a':OA_) (n' c':Nat),Rw w' a' n' c' T→Calls Tryz.prog 109 #[.slice a' n' c'] w' (fun e w''=>e=.returned (.slice a' (plen T) c')∧Rw w'' a' (plen T) c' (aj_ T)∧Below w'.heap.size w' w''):=fun w' a' n' c' h9=>gb_ a' n' c' T w' h9 (by rw[←h9.len];exact HNL.out) hT9
 obtain⟨k,hke⟩:∃k,plen (fqs L)=k:=⟨_,rfl⟩
 obtain⟨M,hM⟩:∃M,L.take k=M:=⟨_,rfl⟩
 rw[hke] at hk
 simp only[hke,hM] at HU HS
 obtain⟨k2,hk2⟩:∃k,plen T=k:=⟨_,rfl⟩
 obtain⟨U,hU⟩:∃U,aj_ T=U:=⟨_,rfl⟩
 simp only[hk2,hU] at HUR ⊢
 have HB:=hd_ (aa_ w (.cells #[.bool vs,.slice va vn vc,.slice vb vm vd] 44))
 have X0:Hid ((w.alloc (.cells #[.bool vs,.slice va vn vc,.slice vb vm vd] 44)).heap[w.heap.size]? = some (.cells #[.bool vs,.slice va vn vc,.slice vb vm vd] 44 (0,0))):=hd_ (ao_ w _ _)
 have HK:=hd_ (h.later HB.out)
 have V1:=hd_ (hv1.later HB.out)
 have V2:=hd_ (hv2.later HB.out)
 clear h ht hv1 hv2 hvq hke hM hT hk2 hU hT9 hzl HVQ HNL hvn hvm
 go_enter Tryz.func64,Tryz.ntmps64
 unfold frV
 go_wp2
 replace HB:=hd_ (ab_ HB.out ((Below.refl _ _).drew:Below (w.alloc (.cells #[.bool vs,.slice va vn vc,.slice vb vm vd] 44)).heap.size (w.alloc (.cells #[.bool vs,.slice va vn vc,.slice vb vm vd] 44)) (w.alloc (.cells #[.bool vs,.slice va vn vc,.slice vb vm vd] 44)).drew))
 replace X0:Hid ((w.alloc (.cells #[.bool vs,.slice va vn vc,.slice vb vm vd] 44)).drew.heap[w.heap.size]? = _):=hd_ X0.out
 replace HK:=hd_ (HK.out.later ((Below.refl _ _).drew:Below (w.alloc (.cells #[.bool vs,.slice va vn vc,.slice vb vm vd] 44)).heap.size (w.alloc (.cells #[.bool vs,.slice va vn vc,.slice vb vm vd] 44)) (w.alloc (.cells #[.bool vs,.slice va vn vc,.slice vb vm vd] 44)).drew))
 replace V1:=hd_ (V1.out.later ((Below.refl _ _).drew:Below (w.alloc (.cells #[.bool vs,.slice va vn vc,.slice vb vm vd] 44)).heap.size (w.alloc (.cells #[.bool vs,.slice va vn vc,.slice vb vm vd] 44)) (w.alloc (.cells #[.bool vs,.slice va vn vc,.slice vb vm vd] 44)).drew))
 replace V2:=hd_ (V2.out.later ((Below.refl _ _).drew:Below (w.alloc (.cells #[.bool vs,.slice va vn vc,.slice vb vm vd] 44)).heap.size (w.alloc (.cells #[.bool vs,.slice va vn vc,.slice vb vm vd] 44)) (w.alloc (.cells #[.bool vs,.slice va vn vc,.slice vb vm vd] 44)).drew))
 have pSn:=av_ X0.out
 go_region_held3 (fun w'=>w'.cell? ⟨w.heap.size,0,none⟩=some (.bool vs)∧w'.cell? ⟨w.heap.size,1,none⟩=some (.slice va vn vc)∧w'.cell? ⟨w.heap.size,2,none⟩=some (.slice vb vm vd)) (exact pSn)
  (first
  | (go_at_call 109;(first
    | (have pm2:=pM2;refine (HUR _ a1 n1 c1 R1.out).mono ?_;rintro e wp3 ⟨rfl,h,b⟩;replace HB:=bt_ HB b;replace X0:=bl_ X0 b;replace HK:=HK.l_ b;replace V1:=V1.l_ b;replace V2:=V2.l_ b;clear R1;have R2:=hd_ h;clear h;clear b;clear pSn;have pSn:=av_ X0.out;clear pM2 pm2;have pM3:=True.intro)
    | (refine (HU _ HK.out).mono ?_;rintro e wp1 ⟨rfl,h,b⟩;replace HB:=bt_ HB b;replace X0:=bl_ X0 b;replace HK:=HK.l_ b;replace V1:=V1.l_ b;replace V2:=V2.l_ b;have M1:=hd_ h;clear h;clear b;clear pSn;have pSn:=av_ X0.out;have pM1:=True.intro)))
  | (go_at_call 110;(first
    | (have pm1:=pM1;refine (HS _ M1.out V1.out V2.out).mono ?_;rintro e wp2 ⟨a1,n1,c1,rfl,h,b⟩;replace HB:=bt_ HB b;replace X0:=bl_ X0 b;replace HK:=HK.l_ b;replace V1:=V1.l_ b;replace V2:=V2.l_ b;clear M1;have R1:=hd_ h;clear h;clear b;clear pSn;have pSn:=av_ X0.out;clear pM1 pm1;have pM2:=True.intro))))
 all_goals (
  go_wp2
  go_ret
  exact⟨a1,k2,c1,rfl,R2.out,HB.out⟩)
theorem poly_diff(a:OA_)(n c:Nat)(L:List Fx)(w:World)(h:Fxs w a n c L)(hn:n≤300)(ht:thin 2000000000 L):Calls Tryz.prog 77 #[.slice a n c] w (cw_ (aj_ (be_ (fqs L))) w):=by
 have hbd:=h.bound
 have hk:=br_ h
 have HK:=hd_ h
 have HLl:=hd_ h.len
 have HTh:=hd_ ht
 obtain⟨N,hN⟩:∃N,plen (fqs L) - 1=N:=⟨_,rfl⟩
 obtain⟨T,hT⟩:∃T,tab N (fun i=>((i+1:Nat):Rat) * co (fqs L) (i+1))=T:=⟨_,rfl⟩
 have HTL:Hid (T.length=N):=hd_ (by rw[←hT,h2_])
 have HTV:Hid (∀k,k < N→T.getD k 0=((k+1:Nat):Rat) * co (fqs L) (k+1)):=hd_ (fun k hk=>by rw[←hT,tab_at hk])
 have HPN:Hid (aj_ (be_ (fqs L))=T):=hd_ (by
  have h1:peq (be_ (fqs L)) T:=fun i=>by
   rw[←hT,co_tab,c7_]
   split
   ·rfl
   ·rw[bq_ (a:=fqs L) (by omega),Rat.mul_zero]
  rw[bj_ h1]
  by_cases h0:N=0
  ·have e0:T=[]:=List.eq_nil_of_length_eq_zero (by rw[HTL.out,h0])
   rw[e0];rfl
  ·have h2:co T (N - 1)≠0:=by
    rw[←h1 (N - 1),c7_]
    intro e
    rcases Rat.mul_eq_zero.1 e with e | e
    ·have:=Rat.natCast_inj.1 (e.trans (show (0:Rat)=((0:Nat):Rat) from rfl));omega
    ·exact cv_ (a:=fqs L) (n:=N - 1+1) (by omega) e
   have h3:=g3_ h2
   have h4:T.length=N:=HTL.out
   rw[c5_,List.take_of_length_le]
   show T.length≤plen T
   omega)
 rw[HPN.out]
 have HD:=hd_ (fun w' (hb:Below w.heap.size w w')=>fo_ a n c L w' (h.later hb) (by omega) (ht.mono (by decide)))
 obtain⟨k,hke⟩:∃k,plen (fqs L)=k:=⟨_,rfl⟩
 rw[hke] at HD hk hN
 have hmax:max ((k:Int) - 1) 0=(N:Int):=by omega
 have hNn:N+1≤n∨N=0:=by omega
 clear hT h ht HPN hke hN
 obtain⟨i0,hi,hz0,hz1,hz2⟩:=info_parts dn_
 go_enter Tryz.func77,Tryz.ntmps77
 go_wp2_with fail
 refine (HD.out _ (Below.refl _ _)).mono ?_
 rintro e w1 ⟨rfl,bw⟩
 have HB1:=hd_ bw
 clear bw HD
 go_wp2_with (at_make;refine b2_ _ rfl _ _ 33 rfl w1.heap.size 44 i0 Tryz.underlying33 hi hz0 hz1 hz2 _ _ _ _ N rfl rfl (by omega) (by omega) (by omega) (by simp) ?_;intro wm hmade hgm hszm)
 have HO0:=hd_ (Half.start hmade)
 have HB0:Hid (Below w.heap.size w wm):=hd_ (ab_ HB1.out ((Below.refl _ _).grown hgm (Nat.le_refl _) (fun k hk=>by cases hk)))
 have hsz1:=HB1.out.size
 clear hmade hgm HB1
 go_loopw [11] (fun iv wr=>∃k r:Nat,k+r=N∧iv=.int .i64 (k:Int)∧Hid (Half wr w1.heap.size 44 (.slice (some ⟨w1.heap.size,0,none⟩) N N) (T.take k) r)∧Hid (Below w.heap.size w wr)∧w1.heap.size < wr.heap.size) (fun iv _=>N - (intOf iv).toNat)
 case atStart=>exact⟨0,N,by omega,rfl,HO0,HB0,by omega⟩
 case round=>
  clear HO0 HB0
  obtain⟨k,r,hk,rfl,HO,HB,hsz⟩:=hrel
  by_cases hlt:k < N
  ·have hkT:k < T.length:=by rw[HTL.out];exact hlt
   obtain⟨r,rfl⟩:∃r',r=r'+1:=⟨r - 1,by omega⟩
   have HT:Hid (T.take (k+1)=T.take k ++ [T.getD k 0]):=hd_ (lb_ hkT)
   have HTv:=hd_ (HTV.out k hlt)
   obtain⟨j,hj⟩:∃j,k+1=j:=⟨_,rfl⟩
   have hjn:j < n:=by omega
   obtain⟨bb0,off0,rfl,e00,e10,e20,hok0⟩:=HK.out.at hjn
   have hth0:=HTh.out _ (d5_ (L:=L) (k:=j) (by rw[HLl.out];exact hjn))
   have hco:co (fqs L) j=(L.getD j Fx.zero).q:=km_ (by rw[HLl.out];exact hjn)
   obtain⟨z,hz⟩:∃z:Rat,((j:Nat):Rat)=z:=⟨_,rfl⟩
   have hlz:qlen z≤2:=hz▸ci_ (z:=((j:Nat):Int)) (by unfold gq_;omega)
   have HI:∀w':World,Calls Tryz.prog 47 #[.int .i64 (j:Int)] w' (LstQ z w'):=fun w'=>hz▸eg_ (j:Int) w' (by unfold gq_;omega)
   rw[hj,hco,hz] at HTv
   generalize L.getD j Fx.zero=xk0 at *
   obtain⟨sk0,ak0,nk0,ck0,lak0,bk0,mk0,dk0,lbk0⟩:=xk0
   obtain⟨hA0,hB0⟩:=hok0
   simp only at e00 e10 e20 hA0 hB0 hth0
   obtain⟨hth0,htj0⟩:=hth0
   have HE0:Hid (w.cell? ⟨bb0,off0+j * 3,none⟩=some (.bool sk0)∧w.cell? ⟨bb0,off0+j * 3+1,none⟩=some (.slice ak0 nk0 ck0)∧w.cell? ⟨bb0,off0+j * 3+2,none⟩=some (.slice bk0 mk0 dk0)):=hd_ ⟨e00,e10,e20⟩
   have AK0:=hd_ hA0
   have BK0:=hd_ hB0
   clear hA0 hB0 e00 e10 e20 hz hco
   generalize T.getD k 0=tk at *
   replace HTv:Hid (tk=z * qval sk0 (val lak0) (val lbk0)):=HTv
   have hki:(k:Int) < (N:Int):=by omega
   have hji:(j:Int) < (n:Int):=by omega
   have hkj:(k:Int)+1=(j:Int):=by omega
   have hwj:IntKind.i64.wrap (j:Int)=(j:Int):=by rw[IntKind.wrap_i64];omega
   obtain⟨e00,e10,e20⟩:=as_ HE0.out HB.out
   have HJ:=hd_ hj
   clear hj
   go_wp2
   have b0:Below wr.heap.size wr wr.drew:=(Below.refl _ _).drew
   replace HB:=bt_ HB b0
   replace HO:=HO.l_ b0
   replace hsz:=Nat.lt_of_lt_of_le hsz b0.size
   clear e00 e10 e20 b0
   obtain⟨e00,e10,e20⟩:=as_ HE0.out HB.out
   go_region_law (first
    | (go_simp;go_at_call 47;refine (HI _).mono ?_;rintro e w3 ⟨a3,n3,c3,b3,m3,d3,rfl,h3,g3,bw⟩;clear e00 e10 e20;replace HB:=bt_ HB bw;replace HO:=HO.l_ bw;have hsz3:=Nat.lt_of_lt_of_le hsz bw.size;clear hsz;have hn3:n3≤2:=Nat.le_trans (Nat.le_of_eq h3.len.symm) (Nat.le_trans (bf_ _) hlz);have hm3:m3≤2:=Nat.le_trans (Nat.le_of_eq g3.len.symm) (Nat.le_trans (bd_ _) hlz);have A3:=hd_ h3;have D3:=hd_ g3;clear bw h3 g3;unfold frV;obtain⟨e00,e10,e20⟩:=as_ HE0.out HB.out)
    | (go_simp;go_at_call 43;refine (fracSaid.mul _ _ z (qval sk0 (val lak0) (val lbk0)) _ (Fr.right A3.out D3.out (by omega) (by omega)) (Fr.of (AK0.out.later HB.out) (BK0.out.later HB.out) (by omega) (by omega) rfl)).mono ?_;rintro e w4 ⟨a4,n4,c4,b4,m4,d4,rfl,h4,g4,bw⟩;rw[←HTv.out] at h4 g4 ⊢;clear e00 e10 e20;replace HB:=bt_ HB bw;replace HO:=HO.l_ bw;have hsz4:=Nat.lt_of_lt_of_le hsz3 bw.size;have HA4:=hd_ h4;have HB4:=hd_ g4;clear bw hsz3 h4 g4 A3 D3;unfold frV;obtain⟨⟨p0,p1,p2⟩,f0,f1,f2⟩:=HO.out.cell (k:=k) (by rw[c8_ (Nat.le_of_lt hkT)])))
   all_goals (
    obtain⟨hst,hgr⟩:=HO.out.stored (k:=k) (by rw[c8_ (Nat.le_of_lt hkT)]) tk a4 n4 c4 b4 m4 d4 HA4.out HB4.out
    rw[←HT.out] at hst
    have HS:=hd_ hst
    have HB5:=hd_ (HB.out.grown hgr HB.out.size (fun g' hg'=>by simp at hg';omega))
    have hsz5:=Nat.lt_of_lt_of_le hsz4 hgr.size
    clear hst hgr HA4 HB4 HO HB HT HTv p0 p1 p2 f0 f1 f2
    go_wp2
    go_roundw
    case rel=>exact⟨k+1,r,by omega,by go_num,HS,HB5,hsz5⟩
    case measure=>simp[intOf];omega)
  ·obtain rfl:k=N:=by omega
   have HF:=hd_ (HO.out.whole HTL.out (by omega))
   obtain⟨a9,c9,e9,h9⟩:=HF.out.out
   rw[HTL.out] at e9 h9
   cases e9
   have HF9:=hd_ h9
   clear HO h9 HF
   go_wp2
   go_ret
   exact⟨_,_,_,rfl,HF9.out,HB.out⟩
theorem poly_eval(a:OA_)(n c:Nat)(L:List Fx)(v:Value)(x:Rat)(N X:Nat)(w:World)(h:Fxs w a n c L)(hv:Fr w v x X)(hn:n≤100)(ht:thin N L)(hb:(n+1) * ((n+1) * (X+8)+N+8)≤1900000000):Calls Tryz.prog 112 #[.slice a n c,v] w (LstQ (an_ x (fqs L)) w):=by
 have hbd:=h.bound
 have hk:=br_ h
 have hlx:qlen x≤X+1:=hv.len
 have hN9:N≤1900000000:=Nat.le_trans (Nat.le_trans (by omega) (Nat.le_mul_of_pos_left _ (by omega):(n+1) * (X+8)+N+8≤(n+1) * ((n+1) * (X+8)+N+8))) hb
 have hX9:X+8≤1900000000:=Nat.le_trans (Nat.le_trans (Nat.le_mul_of_pos_left _ (by omega):X+8≤(n+1) * (X+8)) (Nat.le_trans (by omega) (Nat.le_mul_of_pos_left _ (by omega):(n+1) * (X+8)+N+8≤(n+1) * ((n+1) * (X+8)+N+8)))) hb
 obtain⟨C,hC⟩:∃C,X+N+6=C:=⟨_,rfl⟩
 have hLC:∀k,k≤n→2+k * C+X+3≤1900000000:=fun k hk=>by
  have h1:k * C≤n * C:=Nat.mul_le_mul_right C hk
  have h2:n * C≤n * ((n+1) * (X+8)+N+8):=Nat.mul_le_mul_left n (by
   have:X+8≤(n+1) * (X+8):=Nat.le_mul_of_pos_left _ (by omega)
   omega)
  have h3:X+8≤(n+1) * (X+8):=Nat.le_mul_of_pos_left _ (by omega)
  have h4:(n+1) * ((n+1) * (X+8)+N+8)=n * ((n+1) * (X+8)+N+8)+1 * ((n+1) * (X+8)+N+8):=Nat.add_mul n 1 _
  omega
 have HLC:=hd_ hLC
 obtain⟨T,hT⟩:∃T,aj_ (fqs L)=T:=⟨_,rfl⟩
 have HTL:Hid (T.length=plen (fqs L)):=hd_ (by rw[←hT];rfl)
 have HTV:Hid (∀j,j < plen (fqs L)→T.getD j 0=(L.getD j Fx.zero).q):=hd_ (fun j hj=>by
  have h1:co T j=co (fqs L) j:=by rw[←hT];exact ar_ _ j
  rw[km_ (by rw[h.len];omega)] at h1
  exact h1)
 obtain⟨V,hV⟩:∃V,an_ x (fqs L)=V:=⟨_,rfl⟩
 have HVE:Hid (an_ x T=V):=hd_ (by rw[←hV,←hT];exact ae_ x (ar_ _))
 rw[hV]
 have HD:=hd_ (fun w' (hb:Fxs w' a n c L)=>fo_ a n c L w' hb (by omega) (ht.mono (by omega)))
 obtain⟨k,hke⟩:∃k,plen (fqs L)=k:=⟨_,rfl⟩
 simp only[hke] at HD hk HTL HTV
 obtain⟨vs,va,vn,vc,vla,vb,vm,vd,vlb,rfl,hv1,hv2,hvn,hvm,hvq⟩:=hv
 have HVQ:=hd_ hvq
 have HTh:=hd_ ht
 have HLl:=hd_ h.len
 have HLX:=hd_ hlx
 obtain⟨z0,hz0⟩:∃z:Rat,((0:Int):Rat)=z:=⟨_,rfl⟩
 have HI0:∀w':World,Calls Tryz.prog 47 #[.int .i64 0] w' (LstQ z0 w'):=fun w'=>hz0▸eg_ 0 w' ev_
 have HS0:Hid (z0=0):=hd_ (by rw[←hz0];rfl)
 have HB:=hd_ (ab_ (aa_ w (.cells #[.bool vs,.slice va vn vc,.slice vb vm vd] 44)) (aa_ _ (.cells #[.bool false,.slice none 0 0,.slice none 0 0] 44)))
 have X0:Hid (((w.alloc (.cells #[.bool vs,.slice va vn vc,.slice vb vm vd] 44)).alloc (.cells #[.bool false,.slice none 0 0,.slice none 0 0] 44)).heap[w.heap.size]? = some (.cells #[.bool vs,.slice va vn vc,.slice vb vm vd] 44 (0,0))):=hd_ (ag_ (ao_ w #[.bool vs,.slice va vn vc,.slice vb vm vd] 44) (aa_ _ (.cells #[.bool false,.slice none 0 0,.slice none 0 0] 44)))
 have R0:Hid (((w.alloc (.cells #[.bool vs,.slice va vn vc,.slice vb vm vd] 44)).alloc (.cells #[.bool false,.slice none 0 0,.slice none 0 0] 44)).heap[w.heap.size+1]? = some (.cells #[.bool false,.slice none 0 0,.slice none 0 0] 44 (0,0))):=hd_ (by have h9:=ao_ (w.alloc (.cells #[.bool vs,.slice va vn vc,.slice vb vm vd] 44)) #[.bool false,.slice none 0 0,.slice none 0 0] 44;rwa [aw_] at h9)
 have HK:=hd_ h
 have W1:=hd_ hv1
 have W2:=hd_ hv2
 clear h ht hv1 hv2 hvq hT hV hz0 hb hlx hke
 go_enter Tryz.func112,Tryz.ntmps112
 unfold frV
 go_wp2_with fail
 refine (HI0 _).mono ?_
 rintro e w1 ⟨a1,n1,c1,b1,m1,d1,rfl,h1,g1,bw⟩
 replace HB:=bt_ HB bw
 replace X0:=bl_ X0 bw
 replace R0:=bl_ R0 bw
 have hsz1:w.heap.size+1 < w1.heap.size:=(Array.getElem?_eq_some_iff.1 R0.out).1
 unfold frV
 have ba:=aa_ w1 (.cells #[.bool (zneg z0.num),.slice a1 n1 c1,.slice b1 m1 d1] 44)
 have S0:=hd_ (ao_ w1 #[.bool (zneg z0.num),.slice a1 n1 c1,.slice b1 m1 d1] 44)
 have SA:=h1.l_ ba
 have SD:=g1.l_ ba
 replace HB:=bt_ HB ba
 replace X0:=bl_ X0 ba
 replace R0:=bl_ R0 ba
 clear bw ba h1 g1 HI0
 go_wp2_with fail
 refine (HD.out _ (HK.out.later HB.out)).mono ?_
 rintro e w2 ⟨rfl,bw⟩
 replace HB:=bt_ HB bw
 replace X0:=bl_ X0 bw
 replace R0:=bl_ R0 bw
 replace S0:=bl_ S0 bw
 replace SA:=SA.l_ bw
 replace SD:=SD.l_ bw
 clear bw HD
 have HQ0:Hid (qlen z0≤2+(k - k) * C):=hd_ (by rw[HS0.out,dq_];omega)
 have HE0:Hid (z0=an_ x (T.drop k)):=hd_ (by rw[List.drop_eq_nil_of_le (by rw[HTL.out];exact Nat.le_refl _),HS0.out];rfl)
 go_wp2
 go_loopw [6] (fun iv wr=>∃(j:Nat) (s:Rat) (a1:OA_) (n1 c1:Nat) (b1:OA_) (m1 d1:Nat),j≤k∧iv=.int .i64 ((j:Int) - 1)∧Hid (s=an_ x (T.drop j))∧Hid (qlen s≤2+(k - j) * C)∧
  Hid (wr.heap[w1.heap.size]? = some (.cells #[.bool (zneg s.num),.slice a1 n1 c1,.slice b1 m1 d1] 44 (0,0)))∧Hid (Wd wr a1 n1 c1 (dg s.num.natAbs))∧Hid (Wd wr b1 m1 d1 (dg s.den))∧
  Hid (wr.heap[w.heap.size]? = some (.cells #[.bool vs,.slice va vn vc,.slice vb vm vd] 44 (0,0)))∧Hid (wr.heap[w.heap.size+1]? = some (.cells #[.bool false,.slice none 0 0,.slice none 0 0] 44 (0,0)))∧Hid (Below w.heap.size w wr)) (fun iv _=>(intOf iv+1).toNat)
 case atStart=>exact⟨k,z0,a1,n1,c1,b1,m1,d1,Nat.le_refl _,rfl,HE0,HQ0,S0,SA,SD,X0,R0,HB⟩
 case round=>
  clear S0 SA SD X0 R0 HB HS0 HE0 HQ0
  obtain⟨j,s,a1,n1,c1,b1,m1,d1,hj,rfl,HE,HQ,S0,SA,SD,X0,R0,HB⟩:=hrel
  by_cases hlt:0 < j
  ·obtain⟨i,rfl⟩:∃i,j=i+1:=⟨j - 1,by omega⟩
   have hin:i < n:=by omega
   obtain⟨bb,off,rfl,e0,e1,e2,hok⟩:=HK.out.at hin
   have hth:=HTh.out _ (d5_ (L:=L) (k:=i) (by rw[HLl.out];exact hin))
   have htv:=HTV.out i (by omega)
   have hfr:=hok.fr hth.1 hth.2
   have hcl:=hfr.len
   have hdr:T.drop i=T.getD i 0 :: T.drop (i+1):=by
    have hk':i < T.length:=by rw[HTL.out];omega
    rw[List.drop_eq_getElem_cons hk',List.getD_eq_getElem?_getD,List.getElem?_eq_getElem hk'];rfl
   rw[htv] at hdr
   generalize L.getD i Fx.zero=y at *
   obtain⟨ys,ya,yn,yc,yla,yb,ym,yd,ylb⟩:=y
   obtain⟨q,hq⟩:∃q,(⟨ys,ya,yn,yc,yla,yb,ym,yd,ylb⟩:Fx).q=q:=⟨_,rfl⟩
   have hyq:qval ys (val yla) (val ylb)=q:=hq
   rw[hq] at hdr hcl
   obtain⟨hA,hD⟩:=hok
   simp only at e0 e1 e2 hA hD hth
   obtain⟨s1,hs1⟩:∃z,s * x=z:=⟨_,rfl⟩
   obtain⟨s2,hs2⟩:∃z,s1+q=z:=⟨_,rfl⟩
   have hls:=HQ.out
   have hl1:=HLC.out (k - (i+1)) (by omega)
   have hl2:=HLC.out (k - i) (by omega)
   have hlx:=HLX.out
   have hms:=cu_ s x
   have has:=gh_ s1 q
   have hki:k - i=k - (i+1)+1:=by omega
   rw[hs1] at hms
   rw[hs2] at has
   have hq2:qlen s2≤2+(k - i) * C:=by
    rw[hki,Nat.add_mul,Nat.one_mul];omega
   have HQ2:=hd_ hq2
   have HE2:Hid (s2=an_ x (T.drop i)):=hd_ (by
    rw[hdr,an_,←HE.out,←hs2,←hs1];grind)
   have E1:=hd_ hs1
   have E2:=hd_ hs2
   have L1:Hid (qlen s1≤1900000000):=hd_ (by omega)
   have ls1:n1≤1900000000:=by rw[←SA.out.len];exact Nat.le_trans (bf_ _) (by omega)
   have ls2:m1≤1900000000:=by rw[←SD.out.len];exact Nat.le_trans (bd_ _) (by omega)
   have QA:=hd_ hA
   have QD:=hd_ hD
   have HEE:=hd_ (show w.cell? ⟨bb,off+i * 3,none⟩=some (.bool ys)∧w.cell? ⟨bb,off+i * 3+1,none⟩=some (.slice ya yn yc)∧w.cell? ⟨bb,off+i * 3+2,none⟩=some (.slice yb ym yd) from ⟨e0,e1,e2⟩)
   have YQ:=hd_ hyq
   obtain⟨hyn,hym⟩:=hth
   have hji:((i+1:Nat):Int) - 1=(i:Int):=by omega
   have hii:(i:Int) < (n:Int):=by omega
   have hi0:(0:Int)≤(i:Int):=by omega
   rw[hji]
   clear e0 e1 e2 hA hD hq hyq hdr hs1 hs2 hls hl1 hl2 hlx hms has hki hq2 HE HQ hcl hfr htv hji
   obtain⟨e0,e1,e2⟩:=as_ HEE.out HB.out;obtain⟨x0,x1,x2⟩:=av_ S0.out;obtain⟨y0,y1,y2⟩:=av_ X0.out
   go_wp2
   have b0:Below wr.heap.size wr wr.drew:=(Below.refl _ _).drew
   replace HB:=bt_ HB b0
   replace S0:=bl_ S0 b0
   replace X0:=bl_ X0 b0
   replace R0:=bl_ R0 b0
   replace SA:=SA.l_ b0
   replace SD:=SD.l_ b0
   clear e0 e1 e2 x0 x1 x2 y0 y1 y2 b0
   obtain⟨e0,e1,e2⟩:=as_ HEE.out HB.out;obtain⟨x0,x1,x2⟩:=av_ S0.out;obtain⟨y0,y1,y2⟩:=av_ X0.out
   go_region_law (first
    | (go_simp;go_at_call 43;refine (fracSaid.mul _ _ s x _ (Fr.right SA.out SD.out (by omega) (by omega)) (Fr.of (W1.out.later HB.out) (W2.out.later HB.out) (by omega) (by omega) HVQ.out)).mono ?_;rintro e w4 ⟨a4,n4,c4,b4,m4,d4,rfl,h4,g4,bw⟩;rw[E1.out] at h4 g4 ⊢;clear e0 e1 e2 x0 x1 x2 y0 y1 y2;replace HB:=bt_ HB bw;replace S0:=bl_ S0 bw;replace X0:=bl_ X0 bw;replace R0:=bl_ R0 bw;have A4:=hd_ h4;have D4:=hd_ g4;have hn4:n4≤1900000000:=Nat.le_trans (Nat.le_of_eq h4.len.symm) (Nat.le_trans (bf_ _) L1.out);have hm4:m4≤1900000000:=Nat.le_trans (Nat.le_of_eq g4.len.symm) (Nat.le_trans (bd_ _) L1.out);clear bw h4 g4;unfold frV;obtain⟨e0,e1,e2⟩:=as_ HEE.out HB.out;obtain⟨x0,x1,x2⟩:=av_ S0.out;obtain⟨y0,y1,y2⟩:=av_ X0.out)
    | (go_simp;go_at_call 41;refine (fracSaid.add _ _ s1 q _ (Fr.right A4.out D4.out (by omega) (by omega)) (Fr.of (QA.out.later HB.out) (QD.out.later HB.out) (by omega) (by omega) YQ.out)).mono ?_;rintro e w5 ⟨a5,n5,c5,b5,m5,d5,rfl,h5,g5,bw⟩;rw[E2.out] at h5 g5 ⊢;clear e0 e1 e2 x0 x1 x2 y0 y1 y2;replace HB:=bt_ HB bw;replace S0:=bl_ S0 bw;replace X0:=bl_ X0 bw;replace R0:=bl_ R0 bw;have A5:=hd_ h5;have D5:=hd_ g5;clear bw h5 g5 A4 D4;unfold frV;obtain⟨x0,x1,x2⟩:=av_ S0.out;have f0:=ah_ S0.out 0;have f1:=ah_ S0.out 1;have f2:=ah_ S0.out 2))
   all_goals (
    have S9:=hd_ (bu_ S0.out (.bool (zneg s2.num)) (.slice a5 n5 c5) (.slice b5 m5 d5))
    have SA9:=hd_ (A5.out.stored3 S0.out (zneg s2.num) a5 n5 c5 (.slice b5 m5 d5))
    have SD9:=hd_ (D5.out.stored3 S0.out (zneg s2.num) a5 n5 c5 (.slice b5 m5 d5))
    have X9:=hd_ (bz_ X0.out (show w.heap.size≠w1.heap.size by omega) (.bool (zneg s2.num)) (.slice a5 n5 c5) (.slice b5 m5 d5))
    have R9:=hd_ (bz_ R0.out (show w.heap.size+1≠w1.heap.size by omega) (.bool (zneg s2.num)) (.slice a5 n5 c5) (.slice b5 m5 d5))
    have B9:=hd_ (a3_ HB.out (show w.heap.size≤w1.heap.size by omega) (.bool (zneg s2.num)) (.slice a5 n5 c5) (.slice b5 m5 d5))
    clear S0 X0 R0 HB A5 D5 SA SD
    go_wp2
    go_roundw
    case rel=>exact⟨i,s2,a5,n5,c5,b5,m5,d5,by omega,rfl,HE2,HQ2,S9,SA9,SD9,X9,R9,B9⟩
    case measure=>simp[intOf])
  ·have hj0:j=0:=by omega
   subst hj0
   have HFV:Hid (s=V):=hd_ (by rw[HE.out,List.drop_zero];exact HVE.out)
   obtain rfl:s=V:=HFV.out
   obtain⟨x0,x1,x2⟩:=av_ S0.out
   obtain⟨y0,y1,y2⟩:=av_ R0.out
   have f0:=ah_ R0.out 0
   have f1:=ah_ R0.out 1
   have f2:=ah_ R0.out 2
   have R9:=hd_ (bu_ R0.out (.bool (zneg s.num)) (.slice a1 n1 c1) (.slice b1 m1 d1))
   have S9:=hd_ (SA.out.stored3 R0.out (zneg s.num) a1 n1 c1 (.slice b1 m1 d1))
   have T9:=hd_ (SD.out.stored3 R0.out (zneg s.num) a1 n1 c1 (.slice b1 m1 d1))
   have G9:=hd_ (a3_ HB.out (show w.heap.size≤w.heap.size+1 by omega) (.bool (zneg s.num)) (.slice a1 n1 c1) (.slice b1 m1 d1))
   clear S0 SA SD X0 R0 HB HE HQ HFV HVE
   go_wp2
   refine bodyPost_ret (results_cell_row Tryz.results112 _ _ (w.heap.size+1) 44 #[.bool (zneg s.num),.slice a1 n1 c1,.slice b1 m1 d1] (0,0) _ rfl R9.out Tryz.underlying44 rfl (by kernel_rfl)) rfl ?_
   exact⟨a1,n1,c1,b1,m1,d1,rfl,S9.out,T9.out,G9.out⟩
def Rwss (w:World) (a:OA_) (n cap:Nat) (Q:List (List Rat)):Prop:=∃LL,Fxss w a n cap LL∧LL.map fqs=Q∧∀L∈LL,∀x∈L,x.right
theorem Rwss.later{w w':World}{a:Option Addr}{n cap:Nat}{Q:List (List Rat)}(h:Rwss w a n cap Q)(hb:Below w.heap.size w w'):Rwss w' a n cap Q:=by
 obtain⟨LL,h1,h2,h3⟩:=h
 exact⟨LL,h1.later hb,h2,h3⟩
theorem Rwss.l_ {w w':World}{x0 x1 x2 x3}(h:Rwss w x0 x1 x2 x3)(b:Below w.heap.size w w'):Hid (Rwss w' x0 x1 x2 x3):=Lib.hid (h.later b)
theorem Rwss.len{w:World}{a:Option Addr}{n cap:Nat}{Q:List (List Rat)}(h:Rwss w a n cap Q):Q.length=n:=by
 obtain⟨LL,h1,h2,_⟩:=h
 rw[←h2,List.length_map,h1.len]
theorem Rwss.bound{w:World}{a:Option Addr}{n cap:Nat}{Q:List (List Rat)}(h:Rwss w a n cap Q):n≤cap∧cap≤9223372036854775807:=by
 obtain⟨LL,h1,_,_⟩:=h
 exact h1.bound
theorem oz_{α:Type}{LL:List (List α)}{k:Nat}(h:k < LL.length):LL.getD k []∈LL:=by
 rw[List.getD_eq_getElem?_getD,List.getElem?_eq_getElem h];exact List.getElem_mem h
theorem fqs_row{LL:List (List Fx)}{k:Nat}(h:k < LL.length):fqs (LL.getD k [])=(LL.map fqs).getD k []:=by
 rw[List.getD_eq_getElem?_getD,List.getD_eq_getElem?_getD,List.getElem?_map,List.getElem?_eq_getElem h];rfl
theorem Rwss.at{w:World}{a:Option Addr}{n cap:Nat}{Q:List (List Rat)}(h:Rwss w a n cap Q){j:Nat}(hj:j < n):∃b off,a=some ⟨b,off,none⟩∧∃a' n' c',w.cell? ⟨b,off+j,none⟩=some (.slice a' n' c')∧Rw w a' n' c' (Q.getD j []):=by
 obtain⟨LL,h1,h2,h3⟩:=h
 obtain⟨b,off,e,a',n',c',h4,h5⟩:=h1.at hj
 have hl:j < LL.length:=by rw[h1.len];exact hj
 exact⟨b,off,e,a',n',c',h4,LL.getD j [],h5,by rw[←h2];exact fqs_row hl,h3 _ (oz_ hl)⟩
theorem Rwss.thin{w:World}{a:Option Addr}{n cap:Nat}{Q:List (List Rat)}(h:Rwss w a n cap Q){N:Nat}(hq:∀r∈Q,∀q∈r,qlen q≤N):∃LL,Fxss w a n cap LL∧LL.map fqs=Q∧∀L∈LL,Go.Proofs.YtocebjbjnfammaaGreat.thin N L:=by
 obtain⟨LL,h1,h2,h3⟩:=h
 refine ⟨LL,h1,h2,fun L hL x hx=>?_⟩
 obtain⟨i,hi,rfl⟩:=List.getElem_of_mem hL
 obtain⟨_,_,_,a',n',c',_,h5⟩:=h1.at (j:=i) (by rw[←h1.len];exact hi)
 rw[List.getD_eq_getElem?_getD,List.getElem?_eq_getElem hi] at h5
 have hr:Rw w a' n' c' (fqs LL[i]):=⟨LL[i],h5,rfl,h3 _ (List.getElem_mem hi)⟩
 obtain⟨q1,q2,q3⟩:=h3 _ (List.getElem_mem hi) x hx
 have h7:=hq (fqs LL[i]) (h2▸List.mem_map.2 ⟨LL[i],List.getElem_mem hi,rfl⟩) x.q (List.mem_map.2 ⟨x,hx,rfl⟩)
 obtain⟨h8,h9⟩:=h5.ok hx
 have:=h8.len
 have:=h9.len
 have:=bf_ x.q
 have:=bd_ x.q
 rw[q2] at *
 rw[q3] at *
 constructor <;> omega
theorem Rwss.nil(w:World):Rwss w none 0 0 []:=⟨[],Fxss.ofNil w,rfl,fun L hL=>by simp at hL⟩
def OwnR (w:World) (base:Nat) (e:TypeId) (v:Value) (Q:List (List Rat)):Prop:=∃LL,OwnF w base e v LL∧LL.map fqs=Q∧∀L∈LL,∀x∈L,x.right
theorem OwnR.nil(w:World)(base:Nat)(e:TypeId):OwnR w base e (.slice none 0 0) []:=⟨[],OwnF.nil _ _ _,rfl,fun L hL=>by simp at hL⟩
theorem OwnR.later{w w':World}{base:Nat}{e:TypeId}{v:Value}{Q:List (List Rat)}(h:OwnR w base e v Q)(hb:Below w.heap.size w w'):OwnR w' base e v Q:=by
 obtain⟨LL,h1,h2,h3⟩:=h
 exact⟨LL,h1.later hb,h2,h3⟩
theorem OwnR.l_ {w w':World}{x0 x1 x2 x3}(h:OwnR w x0 x1 x2 x3)(b:Below w.heap.size w w'):Hid (OwnR w' x0 x1 x2 x3):=Lib.hid (h.later b)
theorem OwnR.out{w:World}{base:Nat}{e:TypeId}{v:Value}{Q:List (List Rat)}(h:OwnR w base e v Q):∃(a:OA_) (cap:Nat),v=.slice a Q.length cap∧Rwss w a Q.length cap Q:=by
 obtain⟨LL,h1,h2,h3⟩:=h
 obtain⟨a,cap,e1,h4⟩:=h1.out
 have hl:LL.length=Q.length:=by rw[←h2,List.length_map]
 rw[hl] at e1 h4
 exact⟨a,cap,e1,LL,h4,h2,h3⟩
def rect {α:Type} (m:List (List α)):Prop:=∀r∈m,r.length=(m.getD 0 []).length
instance {α:Type} (m:List (List α)):Decidable (rect m):=by unfold rect;infer_instance
def Slots (w:World) (base:Nat) (e:TypeId) (g n:Nat) (XS:List Sx):Prop:=
 w.ownsRow base e 1 (.slice (some ⟨g,0,none⟩) n n) n (XS.map Sx.val)∧holdsSlices w (.slice (some ⟨g,0,none⟩) n n)∧XS.length=n
theorem slots_own{w w':World}{base:Nat}{e:TypeId}{size:Nat}{v:Value}{n:Nat}{xs:List Value}(h:w.ownsRow base e size v n xs)(hb:Below w.heap.size w w'):w'.ownsRow base e size v n xs:=by
 refine ⟨h.1,?_⟩
 rcases h.2 with hn | ⟨g,cap,cur,rfl,hbg,hgg,rest⟩
 ·exact .inl hn
 ·exact .inr ⟨g,cap,cur,rfl,hbg,(hb.block g (Array.getElem?_eq_some_iff.1 hgg).1).trans hgg,rest⟩
theorem Slots.lt{w:World}{base:Nat}{e:TypeId}{g n:Nat}{XS:List Sx}(h:Slots w base e g n XS):base≤g∧g < w.heap.size:=h.1.lt g rfl
theorem Slots.later{w w':World}{base:Nat}{e:TypeId}{g n:Nat}{XS:List Sx}(h:Slots w base e g n XS)(hb:Below w.heap.size w w'):Slots w' base e g n XS:=by
 refine ⟨slots_own h.1 hb,fun g2 hg2 j u hu=>?_,h.2.2⟩
 have hl:=h.lt
 simp[Value.ownBlock] at hg2
 subst hg2
 rw[World.cell?_of_block (a:=⟨g,j,none⟩) (hb.block g hl.2)] at hu
 exact h.2.1 g rfl j u hu
theorem Slots.l_ {w w':World}{x0 x1 x2 x3 x4}(h:Slots w x0 x1 x2 x3 x4)(b:Below w.heap.size w w'):Hid (Slots w' x0 x1 x2 x3 x4):=Lib.hid (h.later b)
theorem rz_(w:World)(base:Nat)(e:TypeId)(n:Nat)(hn:n≤maxLen)(hb:base≤w.heap.size) :
 Slots (w.alloc (.cells (madeCells #[.slice none 0 0] n) e)) base e w.heap.size n (List.replicate n Sx.zero):=by
 have hh:=heap_alloc_new w (.cells (madeCells #[.slice none 0 0] n) e)
 have h1:=iq_ w base e (.slice none 0 0) n n (Nat.le_refl _) hn hb
 refine ⟨by rw[List.map_replicate];exact h1,c2_ hh ?_,List.length_replicate⟩
 rw[toList_madeCells_one]
 intro u hu
 exact⟨_,_,_,(List.eq_of_mem_replicate hu)⟩
theorem Slots.cell{w:World}{base:Nat}{e:TypeId}{g n:Nat}{XS:List Sx}(h:Slots w base e g n XS){k:Nat}(hk:k < n):w.cell? ⟨g,k,none⟩=some (XS.getD k Sx.zero).val∧w.frozen? ⟨g,k,none⟩=false:=by
 have hl:k < XS.length:=by rw[h.2.2];exact hk
 refine ⟨?_,h.1.frozenAt k⟩
 rw[h.1.cellAt k (by omega),List.getElem?_map,List.getElem?_eq_getElem hl,List.getD_eq_getElem?_getD,List.getElem?_eq_getElem hl];rfl
theorem h7_{w:World}{g n k:Nat}{a:Option Addr}{m c:Nat}{x:Value}(h:holdsSlices w (.slice (some ⟨g,0,none⟩) n n))(hx:w.cell? ⟨g,k,none⟩=some x):holdsSlices (w.setCell ⟨g,k,none⟩ (.slice a m c)) (.slice (some ⟨g,0,none⟩) n n):=by
 intro g2 hg2 j u hu
 have h2:=h g2 hg2 j
 simp[Value.ownBlock] at hg2
 subst hg2
 by_cases hjk:j=k
 ·subst hjk
  rw[World.cell?_setCell_same _ _ _ hx] at hu
  exact⟨_,_,_,(Option.some.inj hu).symm⟩
 ·rw[World.cell?_setCell_other _ ⟨g,k,none⟩ ⟨g,j,none⟩ _ (fun e=>hjk (congrArg Addr.off e).symm)] at hu
  exact h2 u hu
theorem Slots.put{w:World}{base:Nat}{e:TypeId}{g n:Nat}{XS:List Sx}(h:Slots w base e g n XS){k:Nat}(hk:k < n)(a:OA_)(m c:Nat) :
 Slots (w.setCell ⟨g,k,none⟩ (.slice a m c)) base e g n (XS.set k ⟨a,m,c⟩)∧w.grownBy (w.setCell ⟨g,k,none⟩ (.slice a m c)) (some g):=by
 obtain⟨h1,h2⟩:=h.1.stored k (.slice a m c)
 refine ⟨⟨?_,h7_ h.2.1 (h.cell hk).1,by rw[List.length_set];exact h.2.2⟩,h2⟩
 rw[List.map_set]
 exact h1
def Rows (w:World) (XS:List Sx) (Q:List (List Rat)):Prop:=∀j,j < Q.length→Rw w (XS.getD j Sx.zero).a (XS.getD j Sx.zero).n (XS.getD j Sx.zero).c (Q.getD j [])
theorem Rows.later{w w':World}{XS:List Sx}{Q:List (List Rat)}(h:Rows w XS Q)(hb:Below w.heap.size w w'):Rows w' XS Q:=fun j hj=>(h j hj).later hb
theorem Rows.l_ {w w':World}{x0 x1}(h:Rows w x0 x1)(b:Below w.heap.size w w'):Hid (Rows w' x0 x1):=Lib.hid (h.later b)
theorem Rw.aside{w w':World}{v:Value}{a:Option Addr}{n c:Nat}{qs:List Rat}(h:Rw w a n c qs)(hc:holdsSlices w v)(hg:w.grownBy w' v.ownBlock):Rw w' a n c qs:=by
 obtain⟨L,h1,h2,h3⟩:=h
 exact⟨L,h1.aside hc hg,h2,h3⟩
theorem Rows.set{w:World}{XS:List Sx}{Q:List (List Rat)}(h:Rows w XS Q)(x:Sx){k:Nat}(hk:k=Q.length):Rows w (XS.set k x) Q:=fun j hj=>by
 have e:(XS.set k x).getD j Sx.zero=XS.getD j Sx.zero:=by rw[List.getD_eq_getElem?_getD,List.getElem?_set_ne (by omega),←List.getD_eq_getElem?_getD]
 rw[e];exact h j hj
theorem Rows.more{w:World}{XS:List Sx}{Q:List (List Rat)}(h:Rows w XS Q){x:Sx}(hx:XS.getD Q.length Sx.zero=x){q:List Rat}(hq:Rw w x.a x.n x.c q):Rows w XS (Q ++ [q]):=fun j hj=>by
 rw[List.length_append] at hj
 simp only[List.length_cons,List.length_nil] at hj
 by_cases hjl:j < Q.length
 ·rw[show (Q ++ [q]).getD j []=Q.getD j [] by rw[List.getD_eq_getElem?_getD,List.getElem?_append_left hjl,←List.getD_eq_getElem?_getD]]
  exact h j hjl
 ·obtain rfl:j=Q.length:=by omega
  rw[show (Q ++ [q]).getD Q.length []=q by rw[List.getD_eq_getElem?_getD,List.getElem?_append_right (Nat.le_refl _),Nat.sub_self];rfl,hx]
  exact hq
def HalfR (w:World) (base:Nat) (e:TypeId) (g n:Nat) (Q:List (List Rat)):Prop:=∃XS,Slots w base e g n XS∧Rows w XS Q
def HalfW (w:World) (base:Nat) (e:TypeId) (g n:Nat) (Q:List (List Rat)) (x:Sx):Prop:=∃XS,Slots w base e g n XS∧Rows w XS Q∧XS.getD Q.length Sx.zero=x∧Q.length < n
theorem HalfR.later{w w':World}{base:Nat}{e:TypeId}{g n:Nat}{Q:List (List Rat)}(h:HalfR w base e g n Q)(hb:Below w.heap.size w w'):HalfR w' base e g n Q:=by
 obtain⟨XS,h1,h2⟩:=h
 exact⟨XS,h1.later hb,h2.later hb⟩
theorem HalfR.l_ {w w':World}{x0 x1 x2 x3 x4}(h:HalfR w x0 x1 x2 x3 x4)(b:Below w.heap.size w w'):Hid (HalfR w' x0 x1 x2 x3 x4):=Lib.hid (h.later b)
theorem HalfW.later{w w':World}{base:Nat}{e:TypeId}{g n:Nat}{Q:List (List Rat)}{x:Sx}(h:HalfW w base e g n Q x)(hb:Below w.heap.size w w'):HalfW w' base e g n Q x:=by
 obtain⟨XS,h1,h2,h3⟩:=h
 exact⟨XS,h1.later hb,h2.later hb,h3⟩
theorem HalfW.l_ {w w':World}{x0 x1 x2 x3 x4 x5}(h:HalfW w x0 x1 x2 x3 x4 x5)(b:Below w.heap.size w w'):Hid (HalfW w' x0 x1 x2 x3 x4 x5):=Lib.hid (h.later b)
theorem HalfR.cell{w:World}{base:Nat}{e:TypeId}{g n:Nat}{Q:List (List Rat)}(h:HalfR w base e g n Q){k:Nat}(hk:k < n):∃(a:OA_) (m c:Nat),w.cell? ⟨g,k,none⟩=some (.slice a m c)∧w.frozen? ⟨g,k,none⟩=false:=by
 obtain⟨XS,h1,_⟩:=h
 exact⟨_,_,_,h1.cell hk⟩
theorem HalfR.lt{w:World}{base:Nat}{e:TypeId}{g n:Nat}{Q:List (List Rat)}(h:HalfR w base e g n Q):base≤g∧g < w.heap.size:=by
 obtain⟨XS,h1,_⟩:=h
 exact h1.lt
theorem HalfR.raw{w:World}{base:Nat}{e:TypeId}{g n:Nat}{Q:List (List Rat)}(h:HalfR w base e g n Q){k:Nat}(hk:k=Q.length)(hkn:k < n)(a:OA_)(m c:Nat) :
 HalfW (w.setCell ⟨g,k,none⟩ (.slice a m c)) base e g n Q ⟨a,m,c⟩∧w.grownBy (w.setCell ⟨g,k,none⟩ (.slice a m c)) (some g):=by
 obtain⟨XS,h1,h2⟩:=h
 obtain⟨h3,h4⟩:=h1.put hkn a m c
 refine ⟨⟨_,h3,fun j hj=>((h2.set ⟨a,m,c⟩ hk) j hj).aside h1.2.1 h4,?_,hk▸hkn⟩,h4⟩
 rw[←hk,List.getD_eq_getElem?_getD,List.getElem?_set_self (by rw[h1.2.2];exact hkn)];rfl
theorem HalfW.cell{w:World}{base:Nat}{e:TypeId}{g n:Nat}{Q:List (List Rat)}{x:Sx}(h:HalfW w base e g n Q x){k:Nat}(hk:k=Q.length):w.cell? ⟨g,k,none⟩=some (.slice x.a x.n x.c):=by
 obtain⟨XS,h1,_,h3,h4⟩:=h
 have h5:=(h1.cell (k:=k) (by omega)).1
 rw[hk,h3] at h5
 rw[hk];exact h5
theorem HalfW.close{w:World}{base:Nat}{e:TypeId}{g n:Nat}{Q:List (List Rat)}{x:Sx}(h:HalfW w base e g n Q x){q:List Rat}(hq:Rw w x.a x.n x.c q):HalfR w base e g n (Q ++ [q]):=by
 obtain⟨XS,h1,h2,h3,_⟩:=h
 exact⟨XS,h1,h2.more h3 hq⟩
theorem HalfR.stored{w:World}{base:Nat}{e:TypeId}{g n:Nat}{Q:List (List Rat)}(h:HalfR w base e g n Q){k:Nat}(hk:k=Q.length)(hkn:k < n){a:Option Addr}{m c:Nat}{q:List Rat}(hq:Rw w a m c q) :
 HalfR (w.setCell ⟨g,k,none⟩ (.slice a m c)) base e g n (Q ++ [q])∧w.grownBy (w.setCell ⟨g,k,none⟩ (.slice a m c)) (some g):=by
 obtain⟨h1,h2⟩:=h.raw hk hkn a m c
 obtain⟨XS,h3,_⟩:=h
 exact⟨h1.close (hq.aside h3.2.1 h2),h2⟩
theorem HalfR.made(w:World)(base:Nat)(e:TypeId)(n:Nat)(hn:n≤maxLen)(hb:base≤w.heap.size):HalfR (w.alloc (.cells (madeCells #[.slice none 0 0] n) e)) base e w.heap.size n []:=⟨_,rz_ w base e n hn hb,fun j hj=>by simp at hj⟩
theorem pick{α:Type}{P:Nat→List α→Prop}:∀n:Nat,(∀j,j < n→∃L,P j L)→∃LL:List (List α),LL.length=n∧∀j,j < n→P j (LL.getD j [])
 | 0,_=>⟨[],rfl,fun j hj=>by omega⟩
 | n+1,h=>by
   obtain⟨LL,h1,h2⟩:=pick n (fun j hj=>h j (by omega))
   obtain⟨L,h3⟩:=h n (by omega)
   refine ⟨LL ++ [L],by rw[List.length_append,h1];rfl,fun j hj=>?_⟩
   by_cases hjn:j < n
   ·rw[show (LL ++ [L]).getD j []=LL.getD j [] by rw[List.getD_eq_getElem?_getD,List.getElem?_append_left (by omega),←List.getD_eq_getElem?_getD]]
    exact h2 j hjn
   ·obtain rfl:j=n:=by omega
    rw[show (LL ++ [L]).getD j []=L by rw[List.getD_eq_getElem?_getD,List.getElem?_append_right (by omega),show j - LL.length=0 by omega];rfl]
    exact h3
theorem HalfR.whole{w:World}{base:Nat}{e:TypeId}{g n:Nat}{T:List (List Rat)}{k:Nat}(h:HalfR w base e g n (T.take k))(hT:T.length=k)(hk:k=n)(hn:n≤1000000):Rwss w (some ⟨g,0,none⟩) n n T:=by
 rw[List.take_of_length_le (Nat.le_of_eq hT)] at h
 obtain⟨XS,h1,h2⟩:=h
 have hTn:T.length=n:=hT.trans hk
 obtain⟨LL,h3,h4⟩:=pick (α:=Fx) (P:=fun j L=>Fxs w (XS.getD j Sx.zero).a (XS.getD j Sx.zero).n (XS.getD j Sx.zero).c L∧L.map Fx.q=T.getD j []∧∀x∈L,x.right) n (fun j hj=>h2 j (by omega))
 refine ⟨LL,⟨h3,Nat.le_refl _,by omega,fun e=>(by cases e),?_⟩,?_,fun L hL=>?_⟩
 ·refine .inr ⟨g,0,rfl,fun j hj=>⟨_,_,_,?_,(h4 j hj).1⟩⟩
  have h9:=(h1.cell hj).1
  rw[Nat.zero_add];exact h9
 ·refine List.ext_getElem (by rw[List.length_map,h3,hTn]) fun j h5 h6=>?_
  have h7:=(h4 j (by omega)).2.1
  rw[List.getD_eq_getElem?_getD,List.getElem?_eq_getElem (show j < LL.length by omega),List.getD_eq_getElem?_getD,List.getElem?_eq_getElem h6] at h7
  rw[List.getElem_map]
  exact h7
 ·obtain⟨j,hj,rfl⟩:=List.getElem_of_mem hL
  have h7:=(h4 j (by omega)).2.2
  rw[List.getD_eq_getElem?_getD,List.getElem?_eq_getElem hj] at h7
  exact h7
theorem Cop.stored{w:World}{base:Nat}{e:TypeId}{g k cap:Nat}{L:List Fx}(h:Cop w base e (.slice (some ⟨g,0,none⟩) k cap) L)(hk:k=L.length){i:Nat}(hi:i < L.length)(q:Rat)(a:OA_)(n c:Nat)(b:OA_)(m d:Nat)(ha:Wd w a n c (dg q.num.natAbs))(hb:Wd w b m d (dg q.den)) :
 Cop (((w.setCell ⟨g,i * 3,none⟩ (.bool (zneg q.num))).setCell ⟨g,i * 3+1,none⟩ (.slice a n c)).setCell ⟨g,i * 3+2,none⟩ (.slice b m d)) base e (.slice (some ⟨g,0,none⟩) k cap) (L.set i (rx q a n c b m d))∧
 w.grownBy (((w.setCell ⟨g,i * 3,none⟩ (.bool (zneg q.num))).setCell ⟨g,i * 3+1,none⟩ (.slice a n c)).setCell ⟨g,i * 3+2,none⟩ (.slice b m d)) (some g):=by
 obtain⟨⟨h1,h2⟩,h4⟩:=h
 subst hk
 have hf:=bv_ L
 obtain⟨c0,c1,c2⟩:=e0_ L i (by omega)
 have p0:=h1.cellAt (i * 3) (by omega)
 have p1:=h1.cellAt (i * 3+1) (by omega)
 have p2:=h1.cellAt (i * 3+2) (by omega)
 rw[c0] at p0;rw[c1] at p1;rw[c2] at p2
 obtain⟨s0,g0⟩:=h1.stored (i * 3) (.bool (zneg q.num))
 obtain⟨s1,g1⟩:=s0.stored (i * 3+1) (.slice a n c)
 obtain⟨s2,g2⟩:=s1.stored (i * 3+2) (.slice b m d)
 have l0:=cf_ (j:=i * 3) (u:=.bool (zneg q.num)) h2 p0 (fun y e=>by cases e)
 have l1:=cf_ (j:=i * 3+1) (u:=.slice a n c) l0 ((World.cell?_setCell_other _ ⟨g,i * 3,none⟩ ⟨g,i * 3+1,none⟩ _ (fun e=>by simp at e)).trans p1) (fun y e=>by cases e)
 have l2:=cf_ (j:=i * 3+2) (u:=.slice b m d) l1 (((World.cell?_setCell_other _ ⟨g,i * 3+1,none⟩ ⟨g,i * 3+2,none⟩ _ (fun e=>by simp at e)).trans (World.cell?_setCell_other _ ⟨g,i * 3,none⟩ ⟨g,i * 3+2,none⟩ _ (fun e=>by simp at e))).trans p2) (fun y e=>by cases e)
 have hg:=(g0.trans g1).trans g2
 refine ⟨⟨⟨?_,l2⟩,fun x hx=>?_⟩,hg⟩
 ·rw[es_ L i _ (by omega),List.length_set]
  exact s2
 ·rcases List.mem_or_eq_of_mem_set hx with hx | rfl
  ·exact Fx.aside (h4 x hx) h2 hg
  ·exact⟨ha.aside h2 hg,hb.aside h2 hg⟩
theorem Cop.cell{w:World}{base:Nat}{e:TypeId}{g k cap:Nat}{L:List Fx}(h:Cop w base e (.slice (some ⟨g,0,none⟩) k cap) L)(hk:k=L.length){i:Nat}(hi:i < L.length) :
 (w.cell? ⟨g,i * 3,none⟩=some (.bool (L.getD i Fx.zero).s)∧w.cell? ⟨g,i * 3+1,none⟩=some (.slice (L.getD i Fx.zero).a (L.getD i Fx.zero).n (L.getD i Fx.zero).c)∧w.cell? ⟨g,i * 3+2,none⟩=some (.slice (L.getD i Fx.zero).b (L.getD i Fx.zero).m (L.getD i Fx.zero).d))∧w.frozen? ⟨g,i * 3,none⟩=false∧w.frozen? ⟨g,i * 3+1,none⟩=false∧w.frozen? ⟨g,i * 3+2,none⟩=false:=by
 obtain⟨⟨h1,_⟩,_⟩:=h
 subst hk
 obtain⟨c0,c1,c2⟩:=e0_ L i (by omega)
 have p0:=h1.cellAt (i * 3) (by omega)
 have p1:=h1.cellAt (i * 3+1) (by omega)
 have p2:=h1.cellAt (i * 3+2) (by omega)
 rw[c0] at p0;rw[c1] at p1;rw[c2] at p2
 exact⟨⟨p0,p1,p2⟩,h1.frozenAt _,h1.frozenAt _,h1.frozenAt _⟩
def Turned (L T:List Fx) (k:Nat):Prop:=L.length=T.length∧(∀j,j < k→(L.getD j Fx.zero).right∧(L.getD j Fx.zero).q=(T.getD j Fx.zero).q)∧∀j,k≤j→L.getD j Fx.zero=T.getD j Fx.zero
theorem Turned.start(T:List Fx):Turned T T 0:=⟨rfl,fun j hj=>by omega,fun _ _=>rfl⟩
theorem Turned.more{L T:List Fx}{k:Nat}(h:Turned L T k)(hk:k < T.length)(q:Rat)(hq:q=(T.getD k Fx.zero).q)(a:OA_)(n c:Nat)(b:OA_)(m d:Nat):Turned (L.set k (rx q a n c b m d)) T (k+1):=by
 obtain⟨h1,h2,h3⟩:=h
 refine ⟨by rw[List.length_set];exact h1,fun j hj=>?_,fun j hj=>?_⟩
 ·by_cases hjk:j=k
  ·subst hjk
   rw[List.getD_eq_getElem?_getD,List.getElem?_set_self (by omega)]
   exact⟨di_ ..,(rx_q ..).trans hq⟩
  ·rw[List.getD_eq_getElem?_getD,List.getElem?_set_ne (by omega),←List.getD_eq_getElem?_getD]
   exact h2 j (by omega)
 ·rw[List.getD_eq_getElem?_getD,List.getElem?_set_ne (by omega),←List.getD_eq_getElem?_getD]
  exact h3 j (by omega)
theorem Turned.done{L T:List Fx}{k:Nat}(h:Turned L T k)(hk:k=T.length):fqs L=fqs T∧∀x∈L,x.right:=by
 obtain⟨h1,h2,_⟩:=h
 subst hk
 constructor
 ·refine getD_ext (by rw[aq_,aq_,h1]) fun j hj=>?_
  rw[aq_] at hj
  rw[c0_ hj,c0_ (by omega)]
  exact (h2 j (by omega)).2
 ·intro x hx
  obtain⟨j,hj,rfl⟩:=List.getElem_of_mem hx
  have:=(h2 j (by omega)).1
  rwa [List.getD_eq_getElem?_getD,List.getElem?_eq_getElem hj] at this
end Go.Proofs.YtocebjbjnfammaaGreat
