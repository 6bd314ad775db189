import Derived.Test.YtocebjbjnfammaaGreatTG10
import Derived.Test.YtocebjbjnfammaaGreatTG9
import Derived.Deep.AppendSrc
import Derived.Deep.RegionWith
import Derived.Test.YtocebjbjnfammaaGreatTG2
import Derived.Test.YtocebjbjnfammaaGreatTG3
import Derived.Test.YtocebjbjnfammaaGreatTG5
import Derived.Deep.RegionHeld3
import Derived.BigRegion
import Derived.Test.YtocebjbjnfammaaGreatTG8
import Derived.Deep.RegionLaw
import Derived.Test.YtocebjbjnfammaaGreatTG1
set_option maxRecDepth 4096
set_option maxHeartbeats 16000000
namespace Go.Proofs.YtocebjbjnfammaaGreat
open Go.RowKit
def WordPost (v x:Nat) (w:World) (e:Ending) (w':World):Prop:=
 ∃(a:OA_) (n cap:Nat),e=.returned (.tuple #[.slice a n cap,.int .u32 ((v % x:Nat):Int),.bool true])∧Wd w' a n cap (dg (v / x))∧Below w.heap.size w w'
def td_ (v x:Nat) (w:World) (e:Ending) (w':World):Prop:=
 ∃(g n:Nat),e=.returned (.tuple #[.slice (some ⟨g,0,none⟩) n n,.int .u32 ((v % x:Nat):Int),.bool true])∧Own w' w.heap.size g n n (dg (v / x))∧Below w.heap.size w w'
theorem o3_(a:OA_)(n cap:Nat)(l:List Nat)(x:Nat)(w:World)(h:Wd w a n cap l)(hn:n≤1048576000000)(hx:x < 4294967296)(h0:0 < x):Calls Tryz.prog 166 #[.slice a n cap,.int .u32 (x:Int)] w (td_ (val l) x w):=by
 have hmn:(dg (val l)).length≤n:=h.trim_le
 have H:=hd_ h
 have hxz:((x:Int) == 0)=false:=by simp;omega
 clear h
 go_enter Tryz.func166,Tryz.ntmps166
 go_wp2_with fail
 refine (li_ _ _ _ _ _ H.out (by omega)).mono ?_
 rintro e w1 ⟨g,m,rfl,Hm,Hown,hB1⟩
 have HO1:Hid (Own w1 w.heap.size g m m (dg (val l))):=hd_ ⟨Hown.out,cz_ _⟩
 have hm:m≤1048576000000:=by rw[Hm.out];omega
 have HL:Hid (okw (dg (val l))∧(dg (val l)).length=m∧val (dg (val l))=val l):=hd_ ⟨cz_ _,Hm.out.symm,a3_ _⟩
 clear Hown Hm hmn H
 generalize dg (val l)=L at HO1 HL
 go_wp2
 go_loopw [5,7] (fun rv iv wr=>∃(k r:Nat) (Q:List Nat),k≤m∧iv=.int .i64 ((k:Int) - 1)∧rv=.int .u32 (r:Int)∧r < x∧Hid (rb_ x L Q k r)∧Hid (Own wr w.heap.size g m m Q)∧Below w.heap.size w wr) (fun _ iv _=>(intOf iv+1).toNat)
 case atStart=>exact⟨m,0,L,by omega,by go_num,rfl,h0,hd_ ⟨by rw[fl_ (by rw[HL.out.2.1];omega)];simp,h0,fun j _=>rfl,rfl⟩,HO1,hB1⟩
 case round=>
  clear HO1 hB1
  obtain⟨k,r,Q,hk,rfl,rfl,hr,HW,HO,hB⟩:=hrel
  cases k with
  | zero=>
    have Hfin:=hd_ (word_end HW.out HL.out.2.2)
    have hr2:r=val l % x:=Hfin.out.2
    have Hq:Hid (val Q=val l / x):=hd_ Hfin.out.1
    have Hr:=hd_ hr2
    clear hr2 Hfin
    go_wp2_with fail
    refine (li_ _ _ _ _ _ HO.out.wd (by omega)).mono ?_
    rintro e w2 ⟨g2,n2,rfl,Hm2,h2,b2⟩
    rw[Hq.out] at h2
    have H2:Hid (Own w2 w.heap.size g2 n2 n2 (dg (val l / x))):=hd_ (Own.lower ⟨h2.out,cz_ _⟩ hB.size)
    clear h2
    go_wp2
    go_ret3
    exact⟨g2,n2,by rw[←Hr.out];rfl,H2.out,ab_ hB b2⟩
  | succ k=>
    have e1:((k+1:Nat):Int) - 1=(k:Int):=by omega
    rw[e1]
    clear e1
    have hcell:=HO.out.cell (k:=k) (by omega)
    rw[HW.out.2.2.1 k (by omega)] at hcell
    have hfro:=HO.out.1.frozenAt k
    have huw:=bi_ HL.out.1 k
    obtain⟨u,huu⟩:∃u,u=atw L k:=⟨_,rfl⟩
    rw[←huu] at huw hcell
    have Hu:=hd_ huu
    have hb:=HO.out.base
    obtain⟨q,hq⟩:∃q,q=(r * 4294967296+u) / x:=⟨_,rfl⟩
    obtain⟨s,hs⟩:∃s,s=(r * 4294967296+u) % x:=⟨_,rfl⟩
    have hqw:q < 4294967296:=by rw[hq];exact Nat.div_lt_of_lt_mul (by omega)
    have hsx:s < x:=by rw[hs];exact Nat.mod_lt _ h0
    have HQ:=hd_ hq
    have HS:=hd_ hs
    have hki:(k:Int) < (m:Int):=by omega
    clear huu hq hs
    go_wp2_with fail
    refine (k1_ r u x q s _ huw hx hr HQ HS).mono ?_
    rintro e w' ⟨rfl,p,rfl⟩
    have HOs:=hd_ ((show Own (wr.drewN p) w.heap.size g m m Q from HO.out).set k q hqw)
    have HBs:=hd_ ((below_drewN hB p).setCell (p:=⟨g,k,none⟩) hb.1 (.int .u32 (q:Int)))
    have HW2:Hid (rb_ x L (Q.set k q) k s):=hd_ (by
     have h1:=word_down HW.out (by omega) (by rw[HO.out.len];omega)
     rwa [←Hu.out,←HQ.out,←HS.out] at h1)
    go_wp2
    go_roundw
    case rel=>exact⟨k,s,Q.set k q,by omega,by go_num,rfl,hsx,HW2,HOs,HBs.out⟩
    case measure=>simp[intOf]
theorem quot_word(a:OA_)(n cap:Nat)(l:List Nat)(x:Nat)(w:World)(h:Wd w a n cap l)(hn:n≤1048576000000)(hx:x < 4294967296)(h0:0 < x):Calls Tryz.prog 166 #[.slice a n cap,.int .u32 (x:Int)] w (WordPost (val l) x w):=
 (o3_ a n cap l x w h hn hx h0).mono fun _ _ ⟨_,_,he,ho,hb⟩=>⟨_,_,_,he,ho.wd,hb⟩
theorem lc_(w0 w:World)(g i N cap c M K W dcap:Nat)(P D:List Nat)(d:OA_)(hO:Own w w0.heap.size g N cap P)(hB:Below w0.heap.size w0 w)(hd:Wd w0 d M dcap D)(hM:2≤M)(hK:M=K+1)(hW:W=M+1)(hi:i+M < N)(hc:W≤c)(hc2:c≤9223372036854775807)(hN:N≤2097152000000)(hv:Hid (2147483648≤atw D K))(hlt:Hid (val P < 4294967296 ^ (i+1) * val D)) :
 Calls Tryz.prog 176 #[.slice (some ⟨g,i,none⟩) W c,.slice d M dcap] w (t2_ w0.heap.size g N cap i D P w):=by
 obtain⟨m,rfl⟩:∃m,K=m+1:=⟨K - 1,by omega⟩
 subst hK
 subst hW
 exact pr_ w0 w g i N cap c m dcap P D d hO hB hd hi hc hc2 hN hv hlt
def LongPost2 (p q:Nat) (w:World) (e:Ending) (w':World):Prop:=
 ∃(a:OA_) (n cap:Nat) (b:OA_) (m cap':Nat),e=.returned (.tuple #[.slice a n cap,.slice b m cap'])∧Wd w' a n cap (dg p)∧Wd w' b m cap' (dg q)∧Below w.heap.size w w'
theorem quot_long(a:OA_)(na cap:Nat)(la:List Nat)(b:OA_)(M cap' vb:Nat)(w:World)(ha:Wd w a na cap la)(hb:Wd w b M cap' (dg vb))(hna:na≤524288000000)(hM2:2≤M)(hMn:M≤1048576000000)(hle:Hid (vb≤val la)) :
 Calls Tryz.prog 167 #[.slice a na cap,.slice b M cap'] w (LongPost2 (val la / vb) (val la % vb) w):=by
 obtain⟨i0,hi,hz0,hz1,hz2⟩:=info_parts g9_
 obtain⟨K,hK⟩:∃K:Nat,(M:Int) - 1=(K:Int):=⟨M - 1,by omega⟩
 have HMl:Hid ((dg vb).length=M):=hd_ hb.len
 obtain⟨bb,ob,rfl,hcb⟩:=hb.at (by omega)
 have hcK:=hcb K (by omega)
 have hxw:=bi_ (cz_ vb) K
 obtain⟨x,hxx⟩:∃x,x=atw (dg vb) K:=⟨_,rfl⟩
 rw[←hxx] at hxw hcK
 obtain⟨s,hs⟩:∃s,s=32 - blen (atw (dg vb) K):=⟨_,rfl⟩
 have hnt:=norm_top (b:=vb) (m:=K) (by have:=HMl.out;omega) hs
 have hs32:s < 32:=hnt.1
 have HD:Hid ((dg (vb * 2 ^ s)).length=M∧2147483648≤atw (dg (vb * 2 ^ s)) K):=hd_ ⟨by have:=hnt.2.1;omega,hnt.2.2⟩
 have hbl:blen x≤32:=blen_le.2 hxw
 have hsi:(32:Int) - ((blen x:Nat):Int)=(s:Int):=by rw[hxx];have:=blen_le.2 (show atw (dg vb) K < 2 ^ 32 from bi_ (cz_ vb) K);omega
 have Ha:=hd_ ha
 have Hb:=hd_ hb
 have hKi:(K:Int) < (M:Int):=by omega
 have hv0:Hid (0 < vb):=hd_ (by
  rcases Nat.eq_zero_or_pos vb with h | h
  ·have:=HMl.out;rw[h,cu_] at this;simp at this;omega
  ·exact h)
 clear hxx hs hnt ha hb hcb
 generalize hbx:blen x=y at *
 have Hbx:=hd_ hbx
 clear hbx
 go_enter Tryz.func167,Tryz.ntmps167
 go_wp2_with fail
 refine (ky_ x _ hxw).mono ?_
 rintro e w' ⟨rfl,rfl⟩
 rw[Hbx.out]
 go_wp2_with fail
 refine (twos_up _ _ _ _ (s:Int) _ Hb.out (by omega)).mono ?_
 rintro e w1 ⟨d,dn,dcap,rfl,hd,hB1⟩
 rw[show min (s:Int).toNat 4096=s by omega,a3_] at hd
 have hdn:dn=M:=by rw[←hd.len];exact HD.out.1
 subst hdn
 have Hd:=hd_ hd
 have HD2:Hid (okw (dg (vb * 2 ^ s))∧val (dg (vb * 2 ^ s))=vb * 2 ^ s):=hd_ ⟨cz_ _,a3_ _⟩
 clear hd
 have Ha1:=Ha.l_ hB1
 go_wp2_with fail
 refine (mb_ _ _ _ _ (s:Int) _ Ha1.out (by omega)).mono ?_
 rintro e w2 ⟨a2,n2,c2,rfl,h2,hB2,hown⟩
 rw[show min (s:Int).toNat 4096=s by omega] at h2 hown
 obtain⟨g,rfl,HO2⟩:=hown (Nat.ne_of_gt (Nat.mul_pos (by have h1:=hle.out;have h2:=hv0.out;omega) (Nat.two_pow_pos s)))
 obtain⟨A,hA⟩:∃A,A=val la * 2 ^ s:=⟨_,rfl⟩
 rw[←hA] at h2 HO2
 have HA:=hd_ hA
 have hn2:n2≤524288000001∧dn≤n2:=by
  have h3:=h2.len
  have h4:=ee_ Ha.out.ok
  rw[Ha.out.len] at h4
  refine ⟨?_,?_⟩
  ·have h5:2 ^ s≤4294967296 ^ 1:=Nat.le_trans (Nat.pow_le_pow_right (by decide) (show s≤32 by omega)) (by decide)
   have h6:=Nat.mul_lt_mul_of_lt_of_le h4 h5 (ly_ 1)
   rw[←Nat.pow_add,←hA] at h6
   have h7:=bn_ h6
   omega
  ·rw[←h3,←HD.out.1]
   apply ax_
   rw[hA]
   exact Nat.mul_le_mul_right _ hle.out
 obtain⟨hn2,hMn2⟩:=hn2
 have HAl:Hid ((dg A).length=n2):=hd_ h2.len
 clear h2 hA
 go_wp2_with (at_builtin;refine wpList_append_own _ rfl _ _ 25 rfl w1.heap.size 81 i0 (.int .u32 0) 1 4 Tryz.underlying25 hi hz0 hz1 hz2 rfl (by decide) _ n2 _ rfl (HO2.out.1.alloc _) ⟨w2.heap.size,0,none⟩ 1 1 (cf_ [0]) rfl rfl (Wd.lit1 w2 81 (x:=0) (by omega)).cells (d3_ _) (by unfold maxLen;omega) (by omega) (by simp;have:=hB2.size;omega) ?_)
 intro v' w3 hown3 hgrow3 _
 obtain⟨g3,cap3,rfl,HO3'⟩:=Own.push (r:=0) hown3 HO2.out.2 (by decide)
 have HO3:=hd_ HO3'
 have hbase2:=HO2.out.base
 have hB3:Below w1.heap.size w1 w3:=(hB2.alloc hB2.size _).grown hgrow3 (by simp;have:=hB2.size;omega) (by intro k hk;simp[Value.ownBlock] at hk;omega)
 obtain⟨hc3a,hc3b⟩:=HO3.out.bound
 clear HO3' hown3 hgrow3 hbase2 HO2
 obtain⟨N,hN⟩:∃N:Nat,N=n2+1:=⟨_,rfl⟩
 rw[←hN] at HO3 hc3a ⊢
 have HN:=hd_ hN
 have hNd:dn < N:=by omega
 have hNb:N≤524288000002:=by omega
 clear hN
 obtain⟨n,hnn⟩:∃n:Nat,(N:Int) - (dn:Int)=(n:Int):=⟨N - dn,by omega⟩
 have HNn:Hid (N=n+dn):=hd_ (by omega)
 have hnb:n≤1048576000001:=by omega
 have hb3s:=hB3.size
 go_wp2_with (at_make;refine cc_ _ rfl _ _ 25 rfl w1.heap.size 81 i0 (.int .u32 0) Tryz.underlying25 hi hz0 hz1 rfl .i64 .i64 _ _ n n rfl rfl rfl rfl (by omega) (by rw[hz2];omega) (by unfold maxLen;omega) hb3s ?_;intro w4 hown4 hgrow4)
 rw[dy_] at hown4
 have HQ4:Hid (Own w4 w1.heap.size w3.heap.size n n (List.replicate n 0)):=hd_ ⟨hown4,ff_ n⟩
 have HO4:=hd_ (HO3.out.stay hgrow4)
 have hB4:Below w1.heap.size w1 w4:=hB3.grown hgrow4 hb3s (fun k hk=>by cases hk)
 have hg3:g3≠w3.heap.size:=by have:=HO3.out.base;omega
 generalize w3.heap.size=gq at *
 have hgqb:w1.heap.size≤gq:=hb3s
 have HL4:=hd_ (ve_ (A:=A) (n:=n) (m:=K) (D:=dg (vb * 2 ^ s)) (by have h1:=HAl.out;have h2:=HN.out;have h3:=HNn.out;omega) (by have h1:=HD.out.1;omega) HD.out.2)
 clear hown4 hgrow4 HO3 hB3 hb3s
 go_loopw [9] (fun iv wr=>∃(k:Nat) (Q P:List Nat),k≤n∧iv=.int .i64 ((k:Int) - 1)∧Hid (p9_ A (dg (vb * 2 ^ s)) Q P k)∧Hid (Own wr w1.heap.size gq n n Q)∧Hid (Own wr w1.heap.size g3 N cap3 P)∧Below w1.heap.size w1 wr) (fun iv _=>(intOf iv+1).toNat)
 case atStart=>exact⟨n,List.replicate n 0,dg A ++ [0],by omega,by go_num,HL4,HQ4,HO4,hB4⟩
 case round=>
  clear HQ4 HO4 hB4 HL4
  obtain⟨k,Q,P,hk,rfl,HL,HQ,HO,hB⟩:=hrel
  cases k with
  | zero=>
    have Hfin:=hd_ (long_end HL.out)
    have Hq:Hid (val Q=val la / vb):=hd_ (by rw[Hfin.out.1,HD2.out.2,HA.out,(mh_ _ _ _).1])
    have Hr:Hid (val P / 2 ^ s=val la % vb):=hd_ (by rw[Hfin.out.2,HD2.out.2,HA.out,(mh_ _ _ _).2])
    have HP:=hd_ HO.out.wd
    clear Hfin HL
    go_wp2_with fail
    refine (natSaid.norm _ _ _ _ _ HQ.out.wd (by omega)).mono ?_
    rintro e w5 ⟨a5,n5,c5,rfl,h5,b5⟩
    rw[Hq.out] at h5
    have H5:=hd_ h5
    clear h5
    go_wp2_with fail
    refine (twos_down _ _ _ _ (s:Int) _ (HP.out.later b5) (by omega) (by omega)).mono ?_
    rintro e w6 ⟨a6,n6,c6,rfl,h6,b6⟩
    rw[Int.toNat_natCast,Hr.out] at h6
    have H6:=hd_ h6
    have H5b:=H5.l_ b6
    clear h6
    go_wp2
    go_ret2
    exact⟨a5,n5,c5,a6,n6,c6,rfl,H5b.out,H6.out,ab_ hB1 (ab_ hB (ab_ b5 b6))⟩
  | succ k=>
    have e1:((k+1:Nat):Int) - 1=(k:Int):=by omega
    rw[e1]
    clear e1
    obtain⟨t,ht⟩:∃t:Nat,(k:Int)+(dn:Int)=(t:Int):=⟨k+dn,by omega⟩
    obtain⟨t1,ht1⟩:∃t1:Nat,(t:Int)+1=(t1:Int):=⟨t+1,by omega⟩
    have htc:t1≤cap3:=by have:=HNn.out;omega
    have hkt:k≤t1:=by omega
    have hbq:=HQ.out.base
    have hbo:=HO.out.base
    have HLT:Hid (val P < 4294967296 ^ (k+1) * val (dg (vb * 2 ^ s))):=hd_ HL.out.2.1
    go_wp2_with fail
    refine (lc_ w1 _ g3 k N cap3 _ dn K _ dcap P _ d HO.out hB Hd.out hM2 (by omega) (by omega) (by have:=HNn.out;omega) (by omega) (by omega) (by omega) (hd_ HD.out.2) HLT).mono ?_
    rintro e w5 ⟨P5,q,rfl,hq,HO5,hG5,HT5⟩
    have HQ5:=hd_ (HQ.out.other hG5 (Ne.symm hg3))
    have hcell:=HQ5.out.cell (k:=k) (by omega)
    have hfro:=HQ5.out.1.frozenAt k
    generalize atw Q k=old at hcell
    have hB5:=cp_ hB hG5 hbo.1
    have HQ6:=hd_ (HQ5.out.set k q hq)
    have HO6:=hd_ (HO5.out.other (ce_ w5 gq k (.int .u32 (q:Int))) hg3)
    have hB6:=hd_ (hB5.setCell (p:=⟨gq,k,none⟩) hbq.1 (.int .u32 (q:Int)))
    have HL6:=hd_ (long_step HL.out (by rw[HQ.out.len];omega) HT5.out)
    clear hB5 HO5 HQ5 HT5 HL HLT hG5
    go_wp2
    go_roundw
    case rel=>exact⟨k,Q.set k q,P5,by omega,by go_num,HL6,HQ6,HO6,hB6.out⟩
    case measure=>simp[intOf]


theorem Wds.take{w:World}{a:Option Addr}{n cap:Nat}{ls:List (List Nat)}(h:Wds w a n cap ls){k:Nat}(hk:k≤n):Wds w a k cap (ls.take k):=by
 obtain⟨h1,h2,h3,h4,h5⟩:=h
 refine ⟨by rw[List.length_take];omega,by omega,h3,h4,?_⟩
 rcases h5 with h0 | ⟨b,off,e,hc⟩
 ·exact .inl (by omega)
 ·refine .inr ⟨b,off,e,fun j hj=>?_⟩
  obtain⟨a',n',c',h6,h7⟩:=hc j (by omega)
  refine ⟨a',n',c',h6,?_⟩
  rwa [List.getD_eq_getElem?_getD,List.getElem?_take,if_pos hj,←List.getD_eq_getElem?_getD]
theorem Wds.drop{w:World}{b off m cap q:Nat}{ls:List (List Nat)}(h:Wds w (some ⟨b,off,none⟩) (q+m) cap ls):Wds w (some ⟨b,off+q,none⟩) m (cap - q) (ls.drop q):=by
 have h1:=h.bound
 have h2:=h.len
 refine ⟨by rw[List.length_drop];omega,by omega,by omega,fun e=>(by cases e),?_⟩
 rcases h.2.2.2.2 with h0 | ⟨b',off',e,hc⟩
 ·exact .inl (by omega)
 ·simp only[Option.some.injEq,Addr.mk.injEq,and_true] at e
  obtain⟨rfl,rfl⟩:=e
  refine .inr ⟨b,off+q,rfl,fun j hj=>?_⟩
  obtain⟨a',n',c',h6,h7⟩:=hc (q+j) (by omega)
  exact⟨a',n',c',by rw[Nat.add_assoc];exact h6,by rwa [List.getD_eq_getElem?_getD,List.getElem?_drop,←List.getD_eq_getElem?_getD]⟩
theorem ql_(a:OA_)(n cap:Nat)(l:List Nat)(x c0:Nat)(w:World)(h:Wd w a n cap l)(hn:n≤4194304000000)(hx:x < 4294967296)(hc0:c0 < 4294967296) :
 Calls Tryz.prog 172 #[.slice a n cap,.int .u32 (x:Int),.int .u32 (c0:Int)] w (Lst (dg (val l * x+c0)) w):=by
 obtain⟨i0,hi,hz0,hz1,hz2⟩:=info_parts g9_
 have H:=hd_ h
 clear h
 go_enter Tryz.func172,Tryz.ntmps172
 go_wp2_with (at_make;refine cc_ _ rfl _ _ 25 rfl w.heap.size 81 i0 (.int .u32 0) Tryz.underlying25 hi hz0 hz1 rfl .i64 .i64 _ _ 0 (n+1) rfl rfl (by omega) (by omega) (by omega) (by rw[hz2];omega) (by unfold maxLen;omega) (Nat.le_refl _) ?_;intro w1 hown1 hgrow1)
 rw[dy_] at hown1
 have HO1:Hid (Own w1 w.heap.size w.heap.size 0 (n+1) []):=hd_ ⟨hown1,f3_⟩
 have hB1:Below w.heap.size w w1:=(Below.refl _ _).grown hgrow1 (Nat.le_refl _) (fun k hk=>by cases hk)
 clear hown1 hgrow1
 go_loopw [7,8,19] (fun s cv i wr=>∃(j c g cap2:Nat) (o:List Nat),j≤n∧i=.int .i64 (j:Int)∧cv=.int .u32 (c:Int)∧c < 4294967296∧s=.slice (some ⟨g,0,none⟩) j cap2∧Hid (o.length=j)∧Hid (val o+4294967296 ^ j * c=low l j * x+c0)∧Hid (Own wr w.heap.size g j cap2 o)∧Below w.heap.size w wr) (fun _ _ i _=>n - (intOf i).toNat)
 case atStart=>exact⟨0,c0,_,_,[],by omega,rfl,rfl,hc0,rfl,hd_ rfl,hd_ (by rw[cj_];simp[val]),HO1,hB1⟩
 case round=>
  clear HO1 hB1
  obtain⟨j,c,g,cap2,o,hj,rfl,rfl,hc,rfl,Hol,Hv,HO,hB⟩:=hrel
  have hbase:w.heap.size≤wr.heap.size:=hB.size
  by_cases hlt:j < n
  ·obtain⟨b,off,rfl,hcl⟩:=(H.out.later hB).at (by omega)
   have hck:=hcl j hlt
   have hyw:=bi_ H.out.ok j
   obtain⟨y,hyy⟩:∃y,y=atw l j:=⟨_,rfl⟩
   rw[←hyy] at hyw hck
   have Hy:=hd_ hyy
   have hj1:(j:Int) < (n:Int):=by omega
   clear hcl hyy
   go_wp2_with fail
   refine (p2_ y x c _ hyw hx hc).mono ?_
   rintro e w' ⟨c2,z,rfl,hc2,hz,Hs,rfl⟩
   go_wp2_with (at_builtin;refine wpList_append_own _ rfl _ _ 25 rfl w.heap.size 81 i0 (.int .u32 0) 1 4 Tryz.underlying25 hi hz0 hz1 hz2 rfl (by decide) _ j _ rfl (HO.out.1.alloc _) ⟨wr.heap.size,0,none⟩ 1 1 (cf_ [z]) rfl rfl (Wd.lit1 wr 81 (x:=z) hz).cells (d3_ _) (by unfold maxLen;omega) (by omega) (by simp;omega) ?_)
   intro v' w2 hown hgrow _
   obtain⟨g2,cap3,rfl,HO2⟩:=Own.push (r:=z) hown HO.out.2 hz
   have HO':=hd_ HO2
   have hb:=HO.out.base
   have hB1:Below w.heap.size w w2:=(hB.alloc hbase _).grown hgrow (by simp;omega) (by intro k hk;simp[Value.ownBlock] at hk;omega)
   clear HO2 hown hgrow
   go_wp2
   go_roundw
   case rel=>exact⟨j+1,c2,g2,cap3,o ++ [z],by omega,by go_num,rfl,hc2,rfl,hd_ (by have:=Hol.out;simp;omega),hd_ (word_step Hol.out Hv.out (by rw[←Hy.out];exact Hs.out)),HO',hB1⟩
   case measure=>simp[intOf];omega
  ·obtain rfl:j=n:=by omega
   have Hv2:Hid (val (o ++ [c])=val l * x+c0):=hd_ (by rw[ev_,Hol.out,Hv.out,eh_ (by rw[H.out.len];omega)])
   clear hlt Hv
   go_wp2_with (at_builtin;refine wpList_append_own _ rfl _ _ 25 rfl w.heap.size 81 i0 (.int .u32 0) 1 4 Tryz.underlying25 hi hz0 hz1 hz2 rfl (by decide) _ j _ rfl (HO.out.1.alloc _) ⟨_,0,none⟩ 1 1 (cf_ [c]) rfl rfl (Wd.lit1 _ 81 (x:=c) hc).cells (d3_ _) (by unfold maxLen;omega) (by omega) (by simp;omega) ?_)
   intro v' w2 hown hgrow _
   obtain⟨g2,cap3,rfl,HO2⟩:=Own.push (r:=c) hown HO.out.2 hc
   have HO':=hd_ HO2
   have hb:=HO.out.base
   have hB1:Below w.heap.size w w2:=(hB.alloc hbase _).grown hgrow (by simp;omega) (by intro k hk;simp[Value.ownBlock] at hk;omega)
   clear HO2 hown hgrow
   go_wp2_with fail
   refine (natSaid.norm _ _ _ _ _ HO'.out.wd (by omega)).mono ?_
   rintro e w' ⟨a',n',c',rfl,hwd,hbel⟩
   rw[Hv2.out] at hwd
   have HWD:=hd_ hwd
   clear hwd
   go_wp2
   go_ret
   exact⟨_,_,_,rfl,HWD.out,ab_ hB1 hbel⟩



theorem lk_(a:OA_)(n c:Nat)(qs:LR_)(i:Nat)(w:World)(h:Rw w a n c qs):Calls Tryz.prog 123 #[.slice a n c,.int .i64 (i:Int)] w (LstQ (co qs i) w):=by
 have hbd:=h.bound
 have HB:=hd_ (aa_ w (.cells #[.bool false,.slice none 0 0,.slice none 0 0] 27))
 have HR:=hd_ (ai_ w #[.bool false,.slice none 0 0,.slice none 0 0] 27)
 have f0:=ae_ HR.out 0
 have f1:=ae_ HR.out 1
 have f2:=ae_ HR.out 2
 by_cases hi:i < n
 ·obtain⟨b,off,rfl,a1,n1,c1,b1,m1,d1,he,hA,hD⟩:=h.at hi
  have hco:qs.getD i 0=co qs i:=rfl
  rw[hco] at hA hD he
  generalize co qs i=q at *
  have hki:(i:Int) < (n:Int):=by omega
  obtain⟨e0,e1,e2⟩:=an_ he HB.out
  have ba:=aa_ w (.cells #[.bool (zneg q.num),.slice a1 n1 c1,.slice b1 m1 d1] 27)
  have R9:=hd_ (ai_ w #[.bool (zneg q.num),.slice a1 n1 c1,.slice b1 m1 d1] 27)
  have S9:=hA.l_ ba
  have T9:=hD.l_ ba
  have G9:=hd_ ba
  clear h hA hD he ba f0 f1 f2 HR HB
  go_enter Tryz.func123,Tryz.ntmps123
  go_wp2
  refine bodyPost_ret (results_cell_row Tryz.results123 _ _ (w.heap.size) 27 #[.bool (zneg q.num),.slice a1 n1 c1,.slice b1 m1 d1] (0,0) _ rfl R9.out Tryz.underlying27 rfl (by kernel_rfl)) rfl ?_
  exact⟨a1,n1,c1,b1,m1,d1,rfl,S9.out,T9.out,G9.out⟩
 ·have hki:¬(i:Int) < (n:Int):=by omega
  have hc:co qs i=((0:Int):Rat):=by rw[da_ (by rw[h.len];omega)];rfl
  rw[hc]
  obtain⟨q,hq⟩:∃q:Rat,((0:Int):Rat)=q:=⟨_,rfl⟩
  rw[hq]
  have HI:∀w':World,Calls Tryz.prog 15 #[.int .i64 0] w' (LstQ q w'):=fun w'=>hq▸dg_ 0 w' c5_
  clear h hc hq
  go_enter Tryz.func123,Tryz.ntmps123
  go_wp2_with fail
  refine (HI _).mono ?_
  rintro e w1 ⟨a1,n1,c1,b1,m1,d1,rfl,hA,hD,b⟩
  replace HB:=bt_ HB b
  replace HR:=bl_ HR b
  clear f0 f1 f2 b
  have f0:=ae_ HR.out 0
  have f1:=ae_ HR.out 1
  have f2:=ae_ HR.out 2
  obtain⟨y0,y1,y2⟩:=ao_ HR.out
  have R9:=hd_ (be_ HR.out (.bool (zneg q.num)) (.slice a1 n1 c1) (.slice b1 m1 d1))
  have S9:=hd_ (hA.stored3 HR.out (zneg q.num) a1 n1 c1 (.slice b1 m1 d1))
  have T9:=hd_ (hD.stored3 HR.out (zneg q.num) a1 n1 c1 (.slice b1 m1 d1))
  have G9:=hd_ (as_ HB.out (Nat.le_refl _) (.bool (zneg q.num)) (.slice a1 n1 c1) (.slice b1 m1 d1))
  clear hA hD HR HB HI
  unfold frV
  go_wp2
  refine bodyPost_ret (results_cell_row Tryz.results123 _ _ (w.heap.size) 27 #[.bool (zneg q.num),.slice a1 n1 c1,.slice b1 m1 d1] (0,0) _ rfl R9.out Tryz.underlying27 rfl (by kernel_rfl)) rfl ?_
  exact⟨a1,n1,c1,b1,m1,d1,rfl,S9.out,T9.out,G9.out⟩
theorem g7_(v:Value)(z:Rat)(a:OA_)(n c:Nat)(qs:LR_)(w:World)(hv:Rt w v z 2000000000)(h:Rw w a n c qs)(hn:n≤1000)(hq:∀q∈qs,qlen q≤2000000000) :
 Calls Tryz.prog 55 #[v,.slice a n c] w (b5_ (ah_ (ag_ z qs)) w):=by
 have hlz:qlen z≤2000000000:=by
  obtain⟨a1,n1,c1,b1,m1,d1,_,h1,h2,h3,h4⟩:=hv
  exact ez_ (by rw[h1.len];exact h3) (by rw[h2.len];exact h4)
 have HL:Hid (∀q∈ag_ z qs,qlen q≤15728640000):=hd_ (fun q h9=>Nat.le_trans (el_ hlz hq q h9) (by decide))
 have HN:Hid ((ag_ z qs).length≤1000):=hd_ (by rw[a9_,h.len];exact hn)
 have HQ:=hd_ hq
 have HLn:=hd_ h.len
 obtain⟨T,hT⟩:∃T,ag_ z qs=T:=⟨_,rfl⟩
 have HS:∀(w':World) (v':Value),Rt w' v' z 2000000000→Rw w' a n c qs→Calls Tryz.prog 100 #[v',.slice a n c] w' (b5_ T w'):=fun w' v' h8 h9=>hT▸k7_ v' z a n c qs w' h8 h9 hn HQ.out
 rw[hT] at HL HN ⊢
 obtain⟨va,vn,vc,vb,vm,vd,rfl,hv1,hv2,hv3,hv4⟩:=hv
 have HB:=hd_ (aa_ w (.cells #[.bool (zneg z.num),.slice va vn vc,.slice vb vm vd] 27))
 have X0:=hd_ (ai_ w #[.bool (zneg z.num),.slice va vn vc,.slice vb vm vd] 27)
 have HV:=hd_ (Rt.of (q:=z) (hv1.later HB.out) (hv2.later HB.out) hv3 hv4)
 have HR:=hd_ (h.later HB.out)
 obtain⟨x0,x1,x2⟩:=ao_ X0.out
 clear h hq hlz hT hv1 hv2 X0
 go_enter Tryz.func55,Tryz.ntmps55
 unfold frV at HV ⊢
 go_wp2_with fail
 refine (HS _ _ HV.out HR.out).mono ?_
 rintro e w1 ⟨a1,n1,c1,rfl,h1,b⟩
 have hn1:n1≤1000:=by rw[←h1.len];exact HN.out
 replace HB:=bt_ HB b
 have HT:=hd_ h1
 clear b h1 x0 x1 x2 HR HV HS
 go_wp2_with fail
 refine (d2_ a1 n1 c1 T _ HT.out hn1 HL.out).mono ?_
 rintro e w2 ⟨a2,n2,c2,rfl,h2,b⟩
 replace HB:=bt_ HB b
 have HT2:=hd_ h2
 clear b h2 HT
 go_wp2
 go_ret
 exact⟨a2,n2,c2,rfl,HT2.out,HB.out⟩
theorem qs_(a:OA_)(n c:Nat)(ps:LR_)(b:OA_)(m d:Nat)(rs:LR_)(w:World)(h:Rw w a n c ps)(k:Rw w b m d rs)(hn:n≤500)(hm:m≤500)(hp:∀q∈ps,qlen q≤5000000000)(hr:∀q∈rs,qlen q≤5000000000) :
 Calls Tryz.prog 84 #[.slice a n c,.slice b m d] w (b5_ (ah_ (padd ps rs)) w):=by
 have hbd:=h.bound
 have hbd2:=k.bound
 have HK:=hd_ h
 have HM:=hd_ k
 have hl1:=h.len
 have hl2:=k.len
 obtain⟨N,hN⟩:∃N,max n m=N:=⟨_,rfl⟩
 have hnN:n≤N:=by omega
 have hmN:m≤N:=by omega
 have hN5:N≤500:=by omega
 have hNn:N=n∨N=m:=by omega
 obtain⟨T,hT⟩:∃T,tab N (fun i=>co ps i+co rs i)=T:=⟨_,rfl⟩
 have HTL:Hid (T.length=N):=hd_ (by rw[←hT,e5_])
 have HTA:Hid (∀k,k < N→T.getD k 0=co ps k+co rs k):=hd_ (fun k hk=>by rw[←hT,nz_ hk])
 have HLP:Hid (∀i,qlen (co ps i)≤5000000000):=hd_ (cv_ (by decide) hp)
 have HLR:Hid (∀i,qlen (co rs i)≤5000000000):=hd_ (cv_ (by decide) hr)
 have HTQ:Hid (∀q∈T,qlen q≤15728640000):=hd_ (fun q hq=>by
  obtain⟨i,_,rfl⟩:=sp_ (hT▸hq)
  have h1:=fm_ (co ps i) (co rs i)
  have h2:=HLP.out i
  have h3:=HLR.out i
  omega)
 have HPN:Hid (ah_ T=ah_ (padd ps rs)):=hd_ (by rw[←hT,←hN,←hl1,←hl2];exact br_ (tab_padd ps rs))
 rw[←HPN.out]
 have HNN:=hd_ hNn
 clear hT hN h k hp hr hl1 hl2 HPN hNn
 obtain⟨i0,hi,hz0,hz1,hz2⟩:=info_parts d4_
 go_enter Tryz.func84,Tryz.ntmps84
 go_wp2
 go_loopw [5,6] (fun mv iv wr=>∃k:Nat,k≤N∧iv=.int .i64 (k:Int)∧Hid (Row wr w.heap.size 27 mv (T.take k))∧Hid (Below w.heap.size w wr)∧w.heap.size≤wr.heap.size) (fun _ iv _=>N - (intOf iv).toNat)
 case atStart=>exact⟨0,by omega,rfl,hd_ (Row.nil _ _ _),hd_ (Below.refl _ _),by omega⟩
 case round=>
  obtain⟨k,hk,rfl,HO,HB,hsz⟩:=hrel
  by_cases hka:k < n
  ·have hki:(k:Int) < (n:Int):=by omega
   have HT:Hid (T.take (k+1)=T.take k ++ [T.getD k 0]):=hd_ (f9_ (by rw[HTL.out];omega))
   have HTv:Hid (T.getD k 0=co ps k+co rs k):=hd_ (HTA.out k (by omega))
   have hkL:(T.take k).length≤1000000:=by rw[cl_ (by rw[HTL.out];omega)];omega
   have hla:=HLP.out k
   have hlb:=HLR.out k
   generalize T.getD k 0=tk at *
   have HA9:=lk_ a n c ps k wr (HK.out.later HB.out)
   have HB9:=fun (w':World) (h9:Rw w' b m d rs)=>lk_ b m d rs k w' h9
   generalize co ps k=p at *
   generalize co rs k=r at *
   go_wp2_with fail
   refine HA9.mono ?_
   rintro e w3 ⟨a3,n3,c3,b3,m3,d3,rfl,h3,g3,bw⟩
   have hn3:n3≤5000000000:=by rw[←h3.len];exact Nat.le_trans (a5_ _) hla
   have hm3:m3≤5000000000:=by rw[←g3.len];exact Nat.le_trans (a4_ _) hla
   clear HA9
   replace HB:=bt_ HB bw
   replace HO:=HO.l_ bw
   replace hsz:=Nat.le_trans hsz bw.size
   have A3:=hd_ h3
   have D3:=hd_ g3
   clear bw h3 g3
   go_wp2_with fail
   refine (HB9 _ (HM.out.later HB.out)).mono ?_
   rintro e w4 ⟨a4,n4,c4,b4,m4,d4,rfl,h4,g4,bw⟩
   have hn4:n4≤5000000000:=by rw[←h4.len];exact Nat.le_trans (a5_ _) hlb
   have hm4:m4≤5000000000:=by rw[←g4.len];exact Nat.le_trans (a4_ _) hlb
   clear HB9
   replace HB:=bt_ HB bw
   replace HO:=HO.l_ bw
   replace hsz:=Nat.le_trans hsz bw.size
   replace A3:=A3.l_ bw
   replace D3:=D3.l_ bw
   have A4:=hd_ h4
   have D4:=hd_ g4
   clear bw h4 g4
   go_wp2_with fail
   refine (ha_ _ _ p r _ (Rt.of A3.out D3.out (by omega) (by omega)) (Rt.of A4.out D4.out (by omega) (by omega))).mono ?_
   rintro e w5 ⟨a5,n5,c5,b5,m5,d5,rfl,h5,g5,bw⟩
   rw[←HTv.out] at h5 g5 ⊢
   clear A3 D3 A4 D4
   replace HB:=bt_ HB bw
   replace HO:=HO.l_ bw
   replace hsz:=Nat.le_trans hsz bw.size
   have A5:=hd_ h5
   have D5:=hd_ g5
   clear bw h5 g5
   unfold frV
   have ba:=aa_ w5 (.cells #[.bool (zneg tk.num),.slice a5 n5 c5,.slice b5 m5 d5] 27)
   have HOa:=HO.l_ ba
   have HBa:=hd_ (ab_ HB.out ba)
   have AA:=A5.l_ ba
   have DA:=D5.l_ ba
   clear ba HO HB A5 D5
   go_wp2_with (at_builtin;refine c7_ _ rfl _ _ 22 rfl w.heap.size 27 i0 Tryz.underlying22 hi hz0 hz1 hz2 _ (T.take k) rfl HOa.out ⟨w5.heap.size,0,none⟩ tk a5 n5 c5 b5 m5 d5 rfl (gm_ _ _ _ _ _ _ _ _ _) AA.out DA.out hkL (by rw[al_];omega) ?_)
   intro mv6 w6 hrow hgrow hbase hcl
   have HO5:Hid (Row w6 w.heap.size 27 mv6 (T.take (k+1))):=hd_ (by rw[HT.out];exact hrow)
   have HB5:=hd_ (HBa.out.grown hgrow (by rw[al_];omega) hbase)
   have hsz5:w.heap.size≤w6.heap.size:=Nat.le_trans (by rw[al_];omega) hgrow.size
   clear hrow hgrow hbase hcl HOa HBa AA DA HT
   go_wp2
   go_roundw
   case rel=>exact⟨k+1,by omega,by go_num,HO5,HB5,hsz5⟩
   case measure=>simp[intOf];omega
  ·have hki:¬(k:Int) < (n:Int):=by omega
   by_cases hkm:k < m
   ·have hkj:(k:Int) < (m:Int):=by omega
    have HT:Hid (T.take (k+1)=T.take k ++ [T.getD k 0]):=hd_ (f9_ (by rw[HTL.out];omega))
    have HTv:Hid (T.getD k 0=co ps k+co rs k):=hd_ (HTA.out k (by omega))
    have hkL:(T.take k).length≤1000000:=by rw[cl_ (by rw[HTL.out];omega)];omega
    have hla:=HLP.out k
    have hlb:=HLR.out k
    generalize T.getD k 0=tk at *
    have HA9:=lk_ a n c ps k wr (HK.out.later HB.out)
    have HB9:=fun (w':World) (h9:Rw w' b m d rs)=>lk_ b m d rs k w' h9
    generalize co ps k=p at *
    generalize co rs k=r at *
    go_wp2_with fail
    refine HA9.mono ?_
    rintro e w3 ⟨a3,n3,c3,b3,m3,d3,rfl,h3,g3,bw⟩
    have hn3:n3≤5000000000:=by rw[←h3.len];exact Nat.le_trans (a5_ _) hla
    have hm3:m3≤5000000000:=by rw[←g3.len];exact Nat.le_trans (a4_ _) hla
    clear HA9
    replace HB:=bt_ HB bw
    replace HO:=HO.l_ bw
    replace hsz:=Nat.le_trans hsz bw.size
    have A3:=hd_ h3
    have D3:=hd_ g3
    clear bw h3 g3
    go_wp2_with fail
    refine (HB9 _ (HM.out.later HB.out)).mono ?_
    rintro e w4 ⟨a4,n4,c4,b4,m4,d4,rfl,h4,g4,bw⟩
    have hn4:n4≤5000000000:=by rw[←h4.len];exact Nat.le_trans (a5_ _) hlb
    have hm4:m4≤5000000000:=by rw[←g4.len];exact Nat.le_trans (a4_ _) hlb
    clear HB9
    replace HB:=bt_ HB bw
    replace HO:=HO.l_ bw
    replace hsz:=Nat.le_trans hsz bw.size
    replace A3:=A3.l_ bw
    replace D3:=D3.l_ bw
    have A4:=hd_ h4
    have D4:=hd_ g4
    clear bw h4 g4
    go_wp2_with fail
    refine (ha_ _ _ p r _ (Rt.of A3.out D3.out (by omega) (by omega)) (Rt.of A4.out D4.out (by omega) (by omega))).mono ?_
    rintro e w5 ⟨a5,n5,c5,b5,m5,d5,rfl,h5,g5,bw⟩
    rw[←HTv.out] at h5 g5 ⊢
    clear A3 D3 A4 D4
    replace HB:=bt_ HB bw
    replace HO:=HO.l_ bw
    replace hsz:=Nat.le_trans hsz bw.size
    have A5:=hd_ h5
    have D5:=hd_ g5
    clear bw h5 g5
    unfold frV
    have ba:=aa_ w5 (.cells #[.bool (zneg tk.num),.slice a5 n5 c5,.slice b5 m5 d5] 27)
    have HOa:=HO.l_ ba
    have HBa:=hd_ (ab_ HB.out ba)
    have AA:=A5.l_ ba
    have DA:=D5.l_ ba
    clear ba HO HB A5 D5
    go_wp2_with (at_builtin;refine c7_ _ rfl _ _ 22 rfl w.heap.size 27 i0 Tryz.underlying22 hi hz0 hz1 hz2 _ (T.take k) rfl HOa.out ⟨w5.heap.size,0,none⟩ tk a5 n5 c5 b5 m5 d5 rfl (gm_ _ _ _ _ _ _ _ _ _) AA.out DA.out hkL (by rw[al_];omega) ?_)
    intro mv6 w6 hrow hgrow hbase hcl
    have HO5:Hid (Row w6 w.heap.size 27 mv6 (T.take (k+1))):=hd_ (by rw[HT.out];exact hrow)
    have HB5:=hd_ (HBa.out.grown hgrow (by rw[al_];omega) hbase)
    have hsz5:w.heap.size≤w6.heap.size:=Nat.le_trans (by rw[al_];omega) hgrow.size
    clear hrow hgrow hbase hcl HOa HBa AA DA HT
    go_wp2
    go_roundw
    case rel=>exact⟨k+1,by omega,by go_num,HO5,HB5,hsz5⟩
    case measure=>simp[intOf];omega
   ·have hkj:¬(k:Int) < (m:Int):=by omega
    obtain rfl:k=N:=by have:=HNN.out;omega
    have HF:=hd_ (HO.out.whole HTL.out)
    obtain⟨a9,c9,rfl,h9⟩:=HF.out.out
    rw[HTL.out] at h9 ⊢
    have HF9:=hd_ h9
    clear h9 HF HO
    go_wp2_with fail
    refine (d2_ a9 k c9 T _ HF9.out (by omega) HTQ.out).mono ?_
    rintro e w2 ⟨a2,n2,c2,rfl,h2,b⟩
    replace HB:=bt_ HB b
    have HT2:=hd_ h2
    clear b h2 HF9
    go_wp2
    go_ret
    exact⟨a2,n2,c2,rfl,HT2.out,HB.out⟩
theorem rc_(a:OA_)(n c:Nat)(ps:LR_)(b:OA_)(m d:Nat)(rs:LR_)(w:World)(h:Rw w a n c ps)(k:Rw w b m d rs)(hn:n≤500)(hm:m≤500)(hp:∀q∈ps,qlen q≤5000000000)(hr:∀q∈rs,qlen q≤2000000000) :
 Calls Tryz.prog 79 #[.slice a n c,.slice b m d] w (b5_ (ah_ (psub ps rs)) w):=by
 obtain⟨z,hz⟩:∃z:Rat,((-1:Int):Rat)=z:=⟨_,rfl⟩
 have hz1:z = -1:=by rw[←hz];rfl
 have hlz:qlen z≤2:=hz▸b4_ (by decide)
 have HZ:∀w':World,Calls Tryz.prog 15 #[.int .i64 (-1)] w' (LstQ z w'):=fun w'=>hz▸dg_ (-1) w' (by decide)
 obtain⟨S,hS⟩:∃S,ah_ (ag_ z rs)=S:=⟨_,rfl⟩
 have HSL:Hid (S.length≤500):=hd_ (by rw[←hS];exact Nat.le_trans (az_ _) (by rw[a9_,k.len];exact hm))
 have HSQ:Hid (∀q∈S,qlen q≤5000000000):=hd_ (fun q hq=>by rw[←hS] at hq;exact Nat.le_trans (el_ hlz hr q (fy_ hq)) (by decide))
 have HSC:∀(w':World) (v':Value),Rt w' v' z 2→Rw w' b m d rs→Calls Tryz.prog 55 #[v',.slice b m d] w' (b5_ S w'):=fun w' v' h8 h9=>hS▸g7_ v' z b m d rs w' (by obtain⟨x1,x2,x3,x4,x5,x6,y0,y1,y2,y3,y4⟩:=h8;exact⟨x1,x2,x3,x4,x5,x6,y0,y1,y2,by omega,by omega⟩) h9 (by omega) hr
 have HAD:∀(w':World) (a':OA_) (n' c':Nat),n'≤500→Rw w' a n c ps→Rw w' a' n' c' S→Calls Tryz.prog 84 #[.slice a n c,.slice a' n' c'] w' (b5_ (ah_ (psub ps rs)) w'):=fun w' a' n' c' h7 h8 h9=>by
  have h6:=qs_ a n c ps a' n' c' S w' h8 h9 hn h7 hp HSQ.out
  rwa [show ah_ (padd ps S)=ah_ (psub ps rs) from br_ (c6_ (peq.refl _) (by rw[←hS,hz1];exact au_ _))] at h6
 generalize ah_ (psub ps rs)=D at *
 have HL2:Hid (qlen z≤2):=hd_ hlz
 have HA:=hd_ h
 have HK:=hd_ k
 have HB:=hd_ (Below.refl w.heap.size w)
 clear hz hz1 hS h k hp hr hlz HSQ
 go_enter Tryz.func79,Tryz.ntmps79
 go_wp2_with fail
 refine (HZ _).mono ?_
 rintro e w1 ⟨a1,n1,c1,b1,m1,d1,rfl,h1,g1,bw⟩
 have hn1:n1≤2:=by rw[←h1.len];exact Nat.le_trans (a5_ _) HL2.out
 have hm1:m1≤2:=by rw[←g1.len];exact Nat.le_trans (a4_ _) HL2.out
 replace HB:=bt_ HB bw
 have A1:=hd_ h1
 have D1:=hd_ g1
 clear bw h1 g1 HZ
 go_wp2_with fail
 refine (HSC _ _ (Rt.of A1.out D1.out hn1 hm1) (HK.out.later HB.out)).mono ?_
 rintro e w2 ⟨a2,n2,c2,rfl,h2,bw⟩
 have hn2:n2≤500:=by rw[←h2.len];exact HSL.out
 replace HB:=bt_ HB bw
 have A2:=hd_ h2
 clear bw h2 A1 D1 HSC
 go_wp2_with fail
 refine (HAD _ a2 n2 c2 hn2 (HA.out.later HB.out) A2.out).mono ?_
 rintro e w3 ⟨a3,n3,c3,rfl,h3,bw⟩
 replace HB:=bt_ HB bw
 have A3:=hd_ h3
 clear bw h3 A2 HAD
 go_wp2
 go_ret
 exact⟨a3,n3,c3,rfl,A3.out,HB.out⟩
theorem ju_(a:OA_)(n c:Nat)(ps:LR_)(b:OA_)(m d:Nat)(rs:LR_)(w:World)(h:Rw w a n c ps)(k:Rw w b m d rs)(hn:n≤400)(hm:m≤400)(hp:∀q∈ps,qlen q≤15728640000)(hr:∀q∈rs,qlen q≤15728640000)
 (hM:∀k i,qlen (e2_ ps rs k i)≤15728640000) (hS:∀k i,qlen (ca_ i (e2_ ps rs k))≤15728640000) :
 Calls Tryz.prog 80 #[.slice a n c,.slice b m d] w (b5_ (ah_ (pmul ps rs)) w):=by
 have hbd:=h.bound
 have hbd2:=k.bound
 have HK:=hd_ h
 have HM:=hd_ k
 have HPL:=hd_ h.len
 have HRL:=hd_ k.len
 have HLP:=hd_ hp
 have HLR:=hd_ hr
 have HLM:=hd_ hM
 have HLS:=hd_ hS
 obtain⟨N,hN⟩:∃N,n+m=N:=⟨_,rfl⟩
 obtain⟨T,hT⟩:∃T,tab N (fun k=>ca_ (k+1) (e2_ ps rs k))=T:=⟨_,rfl⟩
 have HTL:Hid (T.length=N):=hd_ (by rw[←hT,e5_])
 have HTA:Hid (∀k,k < N→T.getD k 0=ca_ (k+1) (e2_ ps rs k)):=hd_ (fun k hk=>by rw[←hT,nz_ hk])
 have HTQ:Hid (∀q∈T,qlen q≤15728640000):=hd_ (fun q hq=>by
  obtain⟨i,_,rfl⟩:=sp_ (hT▸hq)
  exact HLS.out i (i+1))
 have HPN:Hid (ah_ T=ah_ (pmul ps rs)):=hd_ (by rw[←hT,←hN,←HPL.out,←HRL.out];exact br_ (tab_pmul ps rs))
 rw[←HPN.out]
 have hN8:N≤800:=by omega
 have HNN:=hd_ hN
 obtain⟨z0,hz0⟩:∃z:Rat,((0:Int):Rat)=z:=⟨_,rfl⟩
 have HI0:∀w':World,Calls Tryz.prog 15 #[.int .i64 0] w' (LstQ z0 w'):=fun w'=>hz0▸dg_ 0 w' c5_
 have HS0:Hid (z0=0):=hd_ (by rw[←hz0];rfl)
 clear hT hN h k hp hr hM hS HPN hz0
 obtain⟨i0,hi,hz0,hz1,hz2⟩:=info_parts d4_
 go_enter Tryz.func80,Tryz.ntmps80
 go_wp2
 go_loopw [5,6] (fun mv iv wr=>∃k:Nat,k≤N∧iv=.int .i64 (k:Int)∧Hid (Row wr w.heap.size 27 mv (T.take k))∧Hid (Below w.heap.size w wr)∧w.heap.size≤wr.heap.size) (fun _ iv _=>N - (intOf iv).toNat)
 case atStart=>exact⟨0,by omega,rfl,hd_ (Row.nil _ _ _),hd_ (Below.refl _ _),by omega⟩
 case round=>
  obtain⟨k,hk,rfl,HO,HB,hsz⟩:=hrel
  by_cases hlt:k < N
  ·have hki:(k:Int) < (n:Int)+(m:Int):=by have:=HNN.out;omega
   go_wp2_with fail
   refine (HI0 _).mono ?_
   rintro e w1 ⟨a1,n1,c1,b1,m1,d1,rfl,h1,g1,bw⟩
   have HB1:=hd_ (ab_ HB.out bw)
   have HO1:=HO.l_ bw
   have hsz1:=Nat.le_trans hsz bw.size
   unfold frV
   have ba:=aa_ w1 (.cells #[.bool (zneg z0.num),.slice a1 n1 c1,.slice b1 m1 d1] 27)
   have S0:=hd_ (ai_ w1 #[.bool (zneg z0.num),.slice a1 n1 c1,.slice b1 m1 d1] 27)
   have SA:=h1.l_ ba
   have SD:=g1.l_ ba
   have HI:=hd_ ba
   clear bw ba h1 g1 HB HO hsz
   go_wp2
   go_loopw [8] (fun jv wr=>∃(j:Nat) (s:Rat) (a1:OA_) (n1 c1:Nat) (b1:OA_) (m1 d1:Nat),j≤n∧j≤k+1∧jv=.int .i64 (j:Int)∧Hid (ca_ j (e2_ ps rs k)=s)∧
    Hid (wr.heap[w1.heap.size]? = some (.cells #[.bool (zneg s.num),.slice a1 n1 c1,.slice b1 m1 d1] 27 (0,0)))∧Hid (Wd wr a1 n1 c1 (dg s.num.natAbs))∧Hid (Wd wr b1 m1 d1 (dg s.den))∧Hid (Below w1.heap.size w1 wr)) (fun jv _=>n - (intOf jv).toNat)
   case atStart=>exact⟨0,z0,a1,n1,c1,b1,m1,d1,by omega,by omega,rfl,hd_ (by rw[HS0.out];rfl),S0,SA,SD,HI⟩
   case round=>
    clear S0 SA SD HI
    obtain⟨j,s,a1,n1,c1,b1,m1,d1,hjn,hjk,rfl,HS,S0,SA,SD,HI⟩:=hrel
    by_cases hc1:j < k+1
    ·have hji1:(j:Int)≤(k:Int):=by omega
     by_cases hc2:j < n
     ·obtain⟨e,he9⟩:∃e,k - j=e:=⟨_,rfl⟩
      by_cases hc3:e < m
      ·skip
       obtain⟨bb,off,rfl,a3,n3,c3,b3,m3,d3,he,hA,hD⟩:=HK.out.at hc2
       obtain⟨bc,off2,rfl,a4,n4,c4,b4,m4,d4,he2,hA2,hD2⟩:=HM.out.at hc3
       have hpt:e2_ ps rs k j=ps.getD j 0 * rs.getD e 0:=by rw[←he9];rfl
       have hlq:=HLP.out _ (fq_ (L:=ps) (k:=j) (by have:=HPL.out;omega))
       have hlr:=HLR.out _ (fq_ (L:=rs) (k:=e) (by have:=HRL.out;omega))
       have hLy:=HLM.out k j
       have hLs:=HLS.out k j
       have hS2:ca_ (j+1) (e2_ ps rs k)=s+e2_ ps rs k j:=by rw[←HS.out];rfl
       rw[HS.out] at hLs
       rw[hpt] at hLy hS2
       generalize ps.getD j 0=p at *
       generalize rs.getD e 0=r at *
       obtain⟨y,hy⟩:∃y,p * r=y:=⟨_,rfl⟩
       obtain⟨s2,hs2⟩:∃z,s+y=z:=⟨_,rfl⟩
       rw[hy] at hLy hS2
       rw[hs2] at hS2
       have HS2:=hd_ hS2
       have EY:=hd_ hy
       have E2:=hd_ hs2
       have HYL:=hd_ hLy
       have hn3:n3≤15728640000:=by rw[←hA.len];exact Nat.le_trans (a5_ _) hlq
       have hm3:m3≤15728640000:=by rw[←hD.len];exact Nat.le_trans (a4_ _) hlq
       have hn4:n4≤15728640000:=by rw[←hA2.len];exact Nat.le_trans (a5_ _) hlr
       have hm4:m4≤15728640000:=by rw[←hD2.len];exact Nat.le_trans (a4_ _) hlr
       have hn1:n1≤15728640000:=by rw[←SA.out.len];exact Nat.le_trans (a5_ _) hLs
       have hm1:m1≤15728640000:=by rw[←SD.out.len];exact Nat.le_trans (a4_ _) hLs
       have QA:=hd_ hA
       have QD:=hd_ hD
       have RA:=hd_ hA2
       have RD:=hd_ hD2
       have HE:=hd_ he
       have HE2:=hd_ he2
       have HBi:=hd_ (ab_ HB1.out HI.out)
       have hji:(j:Int) < (n:Int):=by omega
       have hei:(e:Int) < (m:Int):=by omega
       have hkj:(k:Int) - (j:Int)=(e:Int):=by omega
       have hwe:IntKind.i64.wrap (e:Int)=(e:Int):=by rw[IntKind.wrap_i64];omega
       clear hpt hlq hlr hLy hLs hS2 hy hs2 hA hD hA2 hD2 he he2 HS he9
       obtain⟨e0,e1,e2⟩:=an_ HE.out HBi.out;obtain⟨g0,g1,g2⟩:=an_ HE2.out HBi.out;obtain⟨x0,x1,x2⟩:=ao_ S0.out
       go_wp2
       have b0:Below wr.heap.size wr wr.drew:=(Below.refl _ _).drew
       replace HI:=bt_ HI b0
       replace HBi:=bt_ HBi b0
       replace S0:=bl_ S0 b0
       replace SA:=SA.l_ b0
       replace SD:=SD.l_ b0
       clear e0 e1 e2 x0 x1 x2 g0 g1 g2 b0
       obtain⟨e0,e1,e2⟩:=an_ HE.out HBi.out;obtain⟨g0,g1,g2⟩:=an_ HE2.out HBi.out;obtain⟨x0,x1,x2⟩:=ao_ S0.out
       go_region_law (first
        | (go_simp;go_at_call 114;refine (fw_ _ _ p r _ (Rt.of (QA.out.later HBi.out) (QD.out.later HBi.out) (by omega) (by omega)) (Rt.of (RA.out.later HBi.out) (RD.out.later HBi.out) (by omega) (by omega))).mono ?_;rintro e w4 ⟨a6,n6,c6,b6,m6,d6,rfl,h6,g6,bw⟩;rw[EY.out] at h6 g6 ⊢;clear e0 e1 e2 x0 x1 x2 g0 g1 g2;replace HI:=bt_ HI bw;replace HBi:=bt_ HBi bw;replace S0:=bl_ S0 bw;replace SA:=SA.l_ bw;replace SD:=SD.l_ bw;have A6:=hd_ h6;have D6:=hd_ g6;have hn6:n6≤15728640000:=Nat.le_trans (Nat.le_of_eq h6.len.symm) (Nat.le_trans (a5_ _) HYL.out);have hm6:m6≤15728640000:=Nat.le_trans (Nat.le_of_eq g6.len.symm) (Nat.le_trans (a4_ _) HYL.out);clear bw h6 g6;unfold frV;obtain⟨e0,e1,e2⟩:=an_ HE.out HBi.out;obtain⟨g0,g1,g2⟩:=an_ HE2.out HBi.out;obtain⟨x0,x1,x2⟩:=ao_ S0.out)
        | (go_simp;go_at_call 113;refine (ha_ _ _ s y _ (Rt.of SA.out SD.out (by omega) (by omega)) (Rt.of A6.out D6.out (by omega) (by omega))).mono ?_;rintro e w5 ⟨a5,n5,c5,b5,m5,d5,rfl,h5,g5,bw⟩;rw[E2.out] at h5 g5 ⊢;clear e0 e1 e2 x0 x1 x2 g0 g1 g2;replace HI:=bt_ HI bw;replace S0:=bl_ S0 bw;have A5:=hd_ h5;have D5:=hd_ g5;clear bw h5 g5 SA SD A6 D6 HBi;unfold frV;obtain⟨x0,x1,x2⟩:=ao_ S0.out;have f0:=ae_ S0.out 0;have f1:=ae_ S0.out 1;have f2:=ae_ S0.out 2))
       all_goals (
        have S9:=hd_ (be_ S0.out (.bool (zneg s2.num)) (.slice a5 n5 c5) (.slice b5 m5 d5))
        have SA9:=hd_ (A5.out.stored3 S0.out (zneg s2.num) a5 n5 c5 (.slice b5 m5 d5))
        have SD9:=hd_ (D5.out.stored3 S0.out (zneg s2.num) a5 n5 c5 (.slice b5 m5 d5))
        have B9:=hd_ (as_ HI.out (Nat.le_refl _) (.bool (zneg s2.num)) (.slice a5 n5 c5) (.slice b5 m5 d5))
        clear S0 HI A5 D5
        go_wp2
        go_roundw
        case rel=>exact⟨j+1,s2,a5,n5,c5,b5,m5,d5,by omega,by omega,by go_num,HS2,S9,SA9,SD9,B9⟩
        case measure=>simp[intOf];omega)
      ·skip
       have HS2:Hid (ca_ (j+1) (e2_ ps rs k)=s):=hd_ (by
        show ca_ j (e2_ ps rs k)+e2_ ps rs k j=s
        rw[HS.out,pterm_far (by have:=HRL.out;omega),Rat.add_zero])
       have hji:(j:Int) < (n:Int):=by omega
       have hei:¬(e:Int) < (m:Int):=by omega
       have hkj:(k:Int) - (j:Int)=(e:Int):=by omega
       clear HS
       go_wp2
       go_roundw
       case rel=>exact⟨j+1,s,a1,n1,c1,b1,m1,d1,by omega,by omega,by go_num,HS2,S0,SA,SD,HI⟩
       case measure=>simp[intOf];omega
     ·have hji2:¬(j:Int) < (n:Int):=by omega
      have HE:Hid (T.getD k 0=s):=hd_ (by rw[HTA.out k (by omega),od_ (i:=j) (by omega) (by have:=HPL.out;omega)];exact HS.out)
      have HT:Hid (T.take (k+1)=T.take k ++ [s]):=hd_ (by rw[←HE.out];exact f9_ (by rw[HTL.out];omega))
      have hkL:(T.take k).length≤1000000:=by rw[cl_ (by rw[HTL.out];omega)];omega
      obtain⟨x0,x1,x2⟩:=ao_ S0.out
      have HOi:=hd_ (HO1.out.later HI.out)
      have HBi:=hd_ (ab_ HB1.out HI.out)
      have hszi:w.heap.size≤wr.heap.size:=Nat.le_trans hsz1 HI.out.size
      have ba:=aa_ wr (.cells #[.bool (zneg s.num),.slice a1 n1 c1,.slice b1 m1 d1] 27)
      have HOa:=HOi.l_ ba
      have HBa:=hd_ (ab_ HBi.out ba)
      have AA:=SA.l_ ba
      have DA:=SD.l_ ba
      clear ba HOi HBi HO1 HB1 SA SD HS HE HI S0
      go_wp2_with (at_builtin;refine c7_ _ rfl _ _ 22 rfl w.heap.size 27 i0 Tryz.underlying22 hi hz0 hz1 hz2 _ (T.take k) rfl HOa.out ⟨wr.heap.size,0,none⟩ s a1 n1 c1 b1 m1 d1 rfl (gm_ _ _ _ _ _ _ _ _ _) AA.out DA.out hkL (by rw[al_];omega) ?_)
      intro mv6 w6 hrow hgrow hbase hcl
      have HO5:Hid (Row w6 w.heap.size 27 mv6 (T.take (k+1))):=hd_ (by rw[HT.out];exact hrow)
      have HB5:=hd_ (HBa.out.grown hgrow (by rw[al_];omega) hbase)
      have hsz5:w.heap.size≤w6.heap.size:=Nat.le_trans (by rw[al_];omega) hgrow.size
      clear hrow hgrow hbase hcl HOa HBa AA DA HT x0 x1 x2
      go_wp2
      go_roundw
      case rel=>exact⟨k+1,by omega,by go_num,HO5,HB5,hsz5⟩
      case measure=>simp[intOf];omega
    ·have hji1:¬(j:Int)≤(k:Int):=by omega
     have HE:Hid (T.getD k 0=s):=hd_ (by rw[HTA.out k (by omega),od_ (i:=j) (by omega) (by have:=HPL.out;omega)];exact HS.out)
     have HT:Hid (T.take (k+1)=T.take k ++ [s]):=hd_ (by rw[←HE.out];exact f9_ (by rw[HTL.out];omega))
     have hkL:(T.take k).length≤1000000:=by rw[cl_ (by rw[HTL.out];omega)];omega
     obtain⟨x0,x1,x2⟩:=ao_ S0.out
     have HOi:=hd_ (HO1.out.later HI.out)
     have HBi:=hd_ (ab_ HB1.out HI.out)
     have hszi:w.heap.size≤wr.heap.size:=Nat.le_trans hsz1 HI.out.size
     have ba:=aa_ wr (.cells #[.bool (zneg s.num),.slice a1 n1 c1,.slice b1 m1 d1] 27)
     have HOa:=HOi.l_ ba
     have HBa:=hd_ (ab_ HBi.out ba)
     have AA:=SA.l_ ba
     have DA:=SD.l_ ba
     clear ba HOi HBi HO1 HB1 SA SD HS HE HI S0
     go_wp2_with (at_builtin;refine c7_ _ rfl _ _ 22 rfl w.heap.size 27 i0 Tryz.underlying22 hi hz0 hz1 hz2 _ (T.take k) rfl HOa.out ⟨wr.heap.size,0,none⟩ s a1 n1 c1 b1 m1 d1 rfl (gm_ _ _ _ _ _ _ _ _ _) AA.out DA.out hkL (by rw[al_];omega) ?_)
     intro mv6 w6 hrow hgrow hbase hcl
     have HO5:Hid (Row w6 w.heap.size 27 mv6 (T.take (k+1))):=hd_ (by rw[HT.out];exact hrow)
     have HB5:=hd_ (HBa.out.grown hgrow (by rw[al_];omega) hbase)
     have hsz5:w.heap.size≤w6.heap.size:=Nat.le_trans (by rw[al_];omega) hgrow.size
     clear hrow hgrow hbase hcl HOa HBa AA DA HT x0 x1 x2
     go_wp2
     go_roundw
     case rel=>exact⟨k+1,by omega,by go_num,HO5,HB5,hsz5⟩
     case measure=>simp[intOf];omega
  ·have hki:¬(k:Int) < (n:Int)+(m:Int):=by have:=HNN.out;omega
   obtain rfl:k=N:=by omega
   have HF:=hd_ (HO.out.whole HTL.out)
   obtain⟨a9,c9,rfl,h9⟩:=HF.out.out
   rw[HTL.out] at h9 ⊢
   have HF9:=hd_ h9
   clear h9 HF HO
   go_wp2_with fail
   refine (d2_ a9 k c9 T _ HF9.out (by omega) HTQ.out).mono ?_
   rintro e w2 ⟨a2,n2,c2,rfl,h2,b⟩
   replace HB:=bt_ HB b
   have HT2:=hd_ h2
   clear b h2 HF9
   go_wp2
   go_ret
   exact⟨a2,n2,c2,rfl,HT2.out,HB.out⟩
theorem lt_(a:OA_)(n c:Nat)(ps:LR_)(b:OA_)(m d:Nat)(rs:LR_)(N K:Nat)(w:World)(h:Rw w a n c ps)(k:Rw w b m d rs)(hn:n≤400)(hm:m≤400)(hp:∀q∈ps,qlen q≤N)(hr:∀q∈rs,qlen q≤K)(hN:1≤N)(hK:1≤K)(hb:(n+1) * (N+K+8)≤15728640000) :
 Calls Tryz.prog 80 #[.slice a n c,.slice b m d] w (b5_ (ah_ (pmul ps rs)) w):=by
 have h1:N+K+8≤(n+1) * (N+K+8):=Nat.le_mul_of_pos_left _ (by omega)
 have h2:∀k i,qlen (e2_ ps rs k i)≤N+K+1:=fun k i=>Nat.le_trans (ci_ _ _) (Nat.add_le_add_right (Nat.add_le_add (cv_ hN hp i) (cv_ hK hr _)) 1)
 refine ju_ a n c ps b m d rs w h k hn hm (fun q hq=>Nat.le_trans (hp q hq) (by omega)) (fun q hq=>Nat.le_trans (hr q hq) (by omega)) (fun k i=>Nat.le_trans (h2 k i) (by omega)) (fun k i=>?_)
 have h3:∀i,i≤n→qlen (ca_ i (e2_ ps rs k))≤15728640000:=fun i hi=>by
  refine Nat.le_trans (ip_ (T:=N+K+1) i _ (fun j _=>h2 k j)) ?_
  have:i * (N+K+1+2)≤n * (N+K+8):=Nat.mul_le_mul hi (by omega)
  rw[Nat.add_mul] at hb
  omega
 rcases Nat.le_total i n with h4 | h4
 ·exact h3 i h4
 ·rw[fu_ (m:=n) h4 (fun j h5 _=>by unfold e2_;rw[da_ (by rw[h.len];exact h5),Rat.zero_mul])]
  exact h3 n (Nat.le_refl _)
end Go.Proofs.YtocebjbjnfammaaGreat
