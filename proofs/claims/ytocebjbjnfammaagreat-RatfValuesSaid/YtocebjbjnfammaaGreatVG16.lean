import Derived.Test.YtocebjbjnfammaaGreatVG15
import Derived.Deep.RegionHeld3
import Derived.Test.YtocebjbjnfammaaGreatVG3
import Derived.Test.YtocebjbjnfammaaGreatRows
import Derived.Lib.LaidTab
import Derived.Test.YtocebjbjnfammaaGreatVG13
import Derived.Test.YtocebjbjnfammaaGreatVG7
import Derived.Test.YtocebjbjnfammaaGreatVG5
import Derived.Test.YtocebjbjnfammaaGreatVG6
import Derived.Test.YtocebjbjnfammaaGreatVG1
set_option maxRecDepth 4096
set_option maxHeartbeats 16000000
namespace Go.Proofs.YtocebjbjnfammaaGreat
open Go.RowKit
theorem p7_(na:Bool)(a:OA_)(n cap:Nat)(la:List Nat)(b:OA_)(m cap':Nat)(lb:List Nat)(nb:Bool)(a':OA_)(n' c':Nat)(la':List Nat)(b':OA_)(m' d':Nat)(lb':List Nat)(w:World)(ha:Wd w a n cap la)(hb:Wd w b m cap' lb)(ha':Wd w a' n' c' la')(hb':Wd w b' m' d' lb')(hn:n≤9437184000)(hm:m≤9437184000)(hn':n'≤9437184000)(hm':m'≤9437184000) :
 Calls Tryz.prog 41 #[frV na a n cap b m cap',frV nb a' n' c' b' m' d'] w (LstQ (qval na (val la) (val lb)+qval nb (val la') (val lb')) w):=by
 have HB:=hd_ (ab_ (ab_ (aa_ w (.cells #[.bool na,.slice a n cap,.slice b m cap'] 44)) (aa_ _ (.cells #[.bool nb,.slice a' n' c',.slice b' m' d'] 44))) (aa_ _ (.cells #[.bool false,.slice none 0 0,.slice none 0 0] 44)))
 have HA:=hd_ (ha.later HB.out)
 have HC:=hd_ (hb.later HB.out)
 have HA':=hd_ (ha'.later HB.out)
 have HC':=hd_ (hb'.later HB.out)
 obtain⟨hx1,hx2,hx3⟩:=e9_ w #[.bool na,.slice a n cap,.slice b m cap'] #[.bool nb,.slice a' n' c',.slice b' m' d'] #[.bool false,.slice none 0 0,.slice none 0 0] 44 44 44
 have HX:=hd_ hx1
 have HY:=hd_ hx2
 have HR:=hd_ hx3
 have ta:=ha.trim_le
 have tb:=hb.trim_le
 have ta':=ha'.trim_le
 have tb':=hb'.trim_le
 clear ha hb ha' hb' hx1 hx2 hx3
 have H0A:Hid (sgn (qval na (val la) (val lb)).num=0→qval nb (val la') (val lb')=qval na (val la) (val lb)+qval nb (val la') (val lb')):=hd_ (fun h=>by rw[fc_qsign_zero.1 h,Rat.zero_add])
 have H0B:Hid (sgn (qval nb (val la') (val lb')).num=0→qval na (val la) (val lb)=qval na (val la) (val lb)+qval nb (val la') (val lb')):=hd_ (fun h=>by rw[fc_qsign_zero.1 h,Rat.add_zero])
 have H1A:Hid (sgn (qval na (val la) (val lb)).num≠0→val lb≠0):=hd_ (fun h e=>h (by rw[d5_ na (.inl e)];rfl))
 have H1B:Hid (sgn (qval nb (val la') (val lb')).num≠0→val lb'≠0):=hd_ (fun h e=>h (by rw[d5_ nb (.inl e)];rfl))
 obtain⟨X,hX⟩:∃X,val lb / Nat.gcd (val lb) (val lb')=X:=⟨_,rfl⟩
 obtain⟨Y,hY⟩:∃Y,val lb' / Nat.gcd (val lb) (val lb')=Y:=⟨_,rfl⟩
 have lX:(dg X).length≤9437184000:=by rw[←hX];exact Nat.le_trans (az_ (Nat.div_le_self _ _)) (by omega)
 have lY:(dg Y).length≤9437184000:=by rw[←hY];exact Nat.le_trans (az_ (Nat.div_le_self _ _)) (by omega)
 obtain⟨s1,hs1⟩:∃s1,zval na (val la) * (Y:Int)=s1:=⟨_,rfl⟩
 obtain⟨s2,hs2⟩:∃s2,zval nb (val la') * (X:Int)=s2:=⟨_,rfl⟩
 obtain⟨D,hD⟩:∃D,val lb * Y=D:=⟨_,rfl⟩
 have zl1:=hh_ (zval na (val la)) (Y:Int)
 have zl2:=hh_ (zval nb (val la')) (X:Int)
 have zl3:=b1_ (val lb) Y
 rw[d6_,Int.natAbs_natCast,hs1] at zl1
 rw[d6_,Int.natAbs_natCast,hs2] at zl2
 rw[hD] at zl3
 have zl4:=zlen_add s1 s2
 have HS1:Hid (zval na (val la) * ((val (dg Y):Nat):Int)=s1):=hd_ (by rw[a8_];exact hs1)
 have HS2:Hid (zval nb (val la') * ((val (dg X):Nat):Int)=s2):=hd_ (by rw[a8_];exact hs2)
 have HD:Hid (val lb * val (dg Y)=D):=hd_ (by rw[a8_];exact hD)
 have HZ:Hid (val lb≠0→val lb'≠0→qval (zneg (s1+s2)) (val (dg (s1+s2).natAbs)) (val (dg D))=qval na (val la) (val lb)+qval nb (val la') (val lb')):=hd_ (fun h h'=>by
  rw[a8_,a8_,lg_,←hs1,←hs2,←hD,←hX,←hY]
  exact o4_ na nb _ _ _ _ h h')
 have EX:=hd_ hX
 have EY:=hd_ hY
 clear hX hY hs1 hs2 hD
 generalize hq:qval na (val la) (val lb)+qval nb (val la') (val lb')=q at *
 generalize hp:qval na (val la) (val lb)=p at *
 generalize hr:qval nb (val la') (val lb')=r at *
 have HP:=hd_ hp
 have HR9:=hd_ hr
 clear hp hr hq
 go_enter Tryz.func41,Tryz.ntmps41
 unfold frV
 obtain⟨vk0,vk1,vk2,vk3,vk4,vk5,vk6,vk7,vk8⟩:=bj_ HX.out HY.out HR.out
 go_wp2_with fail
 refine (e7_ na a n cap la b m cap' lb _ HA.out HC.out (by omega) (by omega)).mono ?_
 rintro e wv1 ⟨rfl,b⟩
 clear vk0 vk1 vk2 vk3 vk4 vk5 vk6 vk7 vk8
 replace HB:=bt_ HB b
 replace HX:=bl_ HX b
 replace HY:=bl_ HY b
 replace HR:=bl_ HR b
 replace HA:=HA.l_ b
 replace HC:=HC.l_ b
 replace HA':=HA'.l_ b
 replace HC':=HC'.l_ b
 clear b
 rw[HP.out]
 generalize sgn p.num=x at *
 by_cases hx0:x=0
 ·have hq:(x == 0)=true:=by simp[hx0]
  have HQ0:Hid (qval nb (val la') (val lb')=q):=hd_ (HR9.out.trans (H0A.out hx0))
  clear hx0 H0A H0B H1A H1B HZ HA HC zl1 zl2 zl3 zl4 lX lY
  obtain⟨uk0,uk1,uk2,uk3,uk4,uk5,uk6,uk7,uk8⟩:=bj_ HX.out HY.out HR.out
  go_wp2_with fail
  refine (ha_ nb a' n' c' la' b' m' d' lb' _ HA'.out HC'.out (by omega) (by omega)).mono ?_
  rintro e wu1 ⟨a1,n1,c1,b1,m1,d1,rfl,h1,g1,b⟩
  clear uk0 uk1 uk2 uk3 uk4 uk5 uk6 uk7 uk8
  replace HB:=bt_ HB b
  replace HX:=bl_ HX b
  replace HY:=bl_ HY b
  replace HR:=bl_ HR b
  clear HA'
  clear HC'
  clear b
  rw[HQ0.out] at h1 g1 ⊢
  have R1:=hd_ h1
  have T1:=hd_ g1
  clear h1 g1
  unfold frV
  have q0:=ad_ HR.out 0
  have q1:=ad_ HR.out 1
  have q2:=ad_ HR.out 2
  simp only[List.getElem?_toArray,List.getElem?_cons_zero,List.getElem?_cons_succ] at q0 q1 q2
  have f0:=af_ HR.out 0
  have f1:=af_ HR.out 1
  have f2:=af_ HR.out 2
  replace HX:=hd_ (bv_ HX.out (show w.heap.size≠w.heap.size+1+1 by omega) (.bool (zneg q.num)) (.slice a1 n1 c1) (.slice b1 m1 d1))
  replace HY:=hd_ (bv_ HY.out (show w.heap.size+1≠w.heap.size+1+1 by omega) (.bool (zneg q.num)) (.slice a1 n1 c1) (.slice b1 m1 d1))
  replace R1:=hd_ (R1.out.stored3 HR.out ((zneg q.num)) a1 n1 c1 (.slice b1 m1 d1))
  replace T1:=hd_ (T1.out.stored3 HR.out ((zneg q.num)) a1 n1 c1 (.slice b1 m1 d1))
  replace HB:=hd_ (aw_ HB.out (show w.heap.size≤w.heap.size+1+1 by omega) (.bool (zneg q.num)) (.slice a1 n1 c1) (.slice b1 m1 d1))
  replace HR:=hd_ (bm_ HR.out (.bool (zneg q.num)) (.slice a1 n1 c1) (.slice b1 m1 d1))
  go_wp2
  refine bodyPost_ret (results_cell_row Tryz.results41 _ _ (w.heap.size+1+1) 44 #[.bool (zneg q.num),.slice a1 n1 c1,.slice b1 m1 d1] (0,0) _ rfl HR.out Tryz.underlying44 rfl (by kernel_rfl)) rfl ?_
  exact⟨a1,n1,c1,b1,m1,d1,rfl,R1.out,T1.out,HB.out⟩
 ·have hq:(x == 0)=false:=by simp[hx0]
  have HV:=hd_ (H1A.out hx0)
  clear hx0 H0A H1A
  obtain⟨uk0,uk1,uk2,uk3,uk4,uk5,uk6,uk7,uk8⟩:=bj_ HX.out HY.out HR.out
  go_wp2_with fail
  refine (e7_ nb a' n' c' la' b' m' d' lb' _ HA'.out HC'.out (by omega) (by omega)).mono ?_
  rintro e wu1 ⟨rfl,b⟩
  clear uk0 uk1 uk2 uk3 uk4 uk5 uk6 uk7 uk8
  replace HB:=bt_ HB b
  replace HX:=bl_ HX b
  replace HY:=bl_ HY b
  replace HR:=bl_ HR b
  replace HA:=HA.l_ b
  replace HC:=HC.l_ b
  replace HA':=HA'.l_ b
  replace HC':=HC'.l_ b
  clear b
  rw[HR9.out]
  generalize sgn r.num=y at *
  by_cases hy0:y=0
  ·have hr:(y == 0)=true:=by simp[hy0]
   have HQ0:Hid (qval na (val la) (val lb)=q):=hd_ (HP.out.trans (H0B.out hy0))
   clear hy0 H0B H1B HZ HA' HC' zl1 zl2 zl3 zl4 lX lY
   obtain⟨tk0,tk1,tk2,tk3,tk4,tk5,tk6,tk7,tk8⟩:=bj_ HX.out HY.out HR.out
   go_wp2_with fail
   refine (ha_ na a n cap la b m cap' lb _ HA.out HC.out (by omega) (by omega)).mono ?_
   rintro e wt1 ⟨a1,n1,c1,b1,m1,d1,rfl,h1,g1,b⟩
   clear tk0 tk1 tk2 tk3 tk4 tk5 tk6 tk7 tk8
   replace HB:=bt_ HB b
   replace HX:=bl_ HX b
   replace HY:=bl_ HY b
   replace HR:=bl_ HR b
   clear HA
   clear HC
   clear b
   rw[HQ0.out] at h1 g1 ⊢
   have R1:=hd_ h1
   have T1:=hd_ g1
   clear h1 g1
   unfold frV
   have q0:=ad_ HR.out 0
   have q1:=ad_ HR.out 1
   have q2:=ad_ HR.out 2
   simp only[List.getElem?_toArray,List.getElem?_cons_zero,List.getElem?_cons_succ] at q0 q1 q2
   have f0:=af_ HR.out 0
   have f1:=af_ HR.out 1
   have f2:=af_ HR.out 2
   replace HX:=hd_ (bv_ HX.out (show w.heap.size≠w.heap.size+1+1 by omega) (.bool (zneg q.num)) (.slice a1 n1 c1) (.slice b1 m1 d1))
   replace HY:=hd_ (bv_ HY.out (show w.heap.size+1≠w.heap.size+1+1 by omega) (.bool (zneg q.num)) (.slice a1 n1 c1) (.slice b1 m1 d1))
   replace R1:=hd_ (R1.out.stored3 HR.out ((zneg q.num)) a1 n1 c1 (.slice b1 m1 d1))
   replace T1:=hd_ (T1.out.stored3 HR.out ((zneg q.num)) a1 n1 c1 (.slice b1 m1 d1))
   replace HB:=hd_ (aw_ HB.out (show w.heap.size≤w.heap.size+1+1 by omega) (.bool (zneg q.num)) (.slice a1 n1 c1) (.slice b1 m1 d1))
   replace HR:=hd_ (bm_ HR.out (.bool (zneg q.num)) (.slice a1 n1 c1) (.slice b1 m1 d1))
   go_wp2
   refine bodyPost_ret (results_cell_row Tryz.results41 _ _ (w.heap.size+1+1) 44 #[.bool (zneg q.num),.slice a1 n1 c1,.slice b1 m1 d1] (0,0) _ rfl HR.out Tryz.underlying44 rfl (by kernel_rfl)) rfl ?_
   exact⟨a1,n1,c1,b1,m1,d1,rfl,R1.out,T1.out,HB.out⟩
  ·have hr:(y == 0)=false:=by simp[hy0]
   have HZ2:=hd_ (HZ.out HV.out (H1B.out hy0))
   clear hy0 H0B H1B HZ HV
   obtain⟨tk0,tk1,tk2,tk3,tk4,tk5,tk6,tk7,tk8⟩:=bj_ HX.out HY.out HR.out
   go_wp2_with fail
   refine (hn_ b m cap' lb b' m' d' lb' _ HC.out HC'.out (by omega) (by omega)).mono ?_
   rintro e wt1 ⟨ax,nx,cx,ay,ny,cy,rfl,hX,hY,b⟩
   clear tk0 tk1 tk2 tk3 tk4 tk5 tk6 tk7 tk8
   replace HB:=bt_ HB b
   replace HX:=bl_ HX b
   replace HY:=bl_ HY b
   replace HR:=bl_ HR b
   replace HA:=HA.l_ b
   replace HC:=HC.l_ b
   replace HA':=HA'.l_ b
   replace HC':=HC'.l_ b
   clear b
   rw[EX.out] at hX
   rw[EY.out] at hY
   have lnx:=hX.len
   have lny:=hY.len
   have RX:=hd_ hX
   have RY:=hd_ hY
   clear hX hY
   obtain⟨tk0,tk1,tk2,tk3,tk4,tk5,tk6,tk7,tk8⟩:=bj_ HX.out HY.out HR.out
   go_wp2
   clear tk0 tk1 tk2 tk3 tk4 tk5 tk6 tk7 tk8
   replace HB:=bt_ HB (dw_ wt1)
   replace HX:Hid (wt1.drew.heap[w.heap.size]? = _):=hd_ HX.out
   replace HY:Hid (wt1.drew.heap[w.heap.size+1]? = _):=hd_ HY.out
   replace HR:Hid (wt1.drew.heap[w.heap.size+1+1]? = some (.cells #[.bool false,.slice none 0 0,.slice none 0 0] 44 (0,0))):=hd_ HR.out
   replace HA:=HA.l_ (dw_ wt1)
   replace HC:=HC.l_ (dw_ wt1)
   replace HA':=HA'.l_ (dw_ wt1)
   replace HC':=HC'.l_ (dw_ wt1)
   replace RX:=RX.l_ (dw_ wt1)
   replace RY:=RY.l_ (dw_ wt1)
   have pSn:=a7_ HX.out HY.out
   go_region_held3 (fun w'=>w'.cell? ⟨w.heap.size,0,none⟩=some (.bool na)∧w'.cell? ⟨w.heap.size,1,none⟩=some (.slice a n cap)∧w'.cell? ⟨w.heap.size,2,none⟩=some (.slice b m cap')∧w'.cell? ⟨w.heap.size+1,0,none⟩=some (.bool nb)∧w'.cell? ⟨w.heap.size+1,1,none⟩=some (.slice a' n' c')∧w'.cell? ⟨w.heap.size+1,2,none⟩=some (.slice b' m' d')) (first | exact pSn | exact pSb _ _ _)
    (first
    | (go_at_call 89;(first
      | (have pm1:=pM1;refine (gh_ nb a' n' c' la' ax nx cx _ _ HA'.out RX.out (by omega) (by omega)).mono ?_;rintro e wp2 ⟨a2,n2,c2,rfl,h2,b⟩;replace HB:=bt_ HB b;replace HX:=bl_ HX b;replace HY:=bl_ HY b;replace HR:=bl_ HR b;replace HA:=HA.l_ b;replace HC:=HC.l_ b;replace HA':=HA'.l_ b;replace HC':=HC'.l_ b;replace RX:=RX.l_ b;replace RY:=RY.l_ b;replace R1:=R1.l_ b;rw[HS2.out] at h2 ⊢;have R2:=hd_ h2;have ln2:=h2.len;clear h2;unfold whV;clear b;clear pSn;have pSn:=a7_ HX.out HY.out;clear pM1 pm1;have pM2:=True.intro)
      | (refine (gh_ na a n cap la ay ny cy _ _ HA.out RY.out (by omega) (by omega)).mono ?_;rintro e wp1 ⟨a1,n1,c1,rfl,h1,b⟩;replace HB:=bt_ HB b;replace HX:=bl_ HX b;replace HY:=bl_ HY b;replace HR:=bl_ HR b;replace HA:=HA.l_ b;replace HC:=HC.l_ b;replace HA':=HA'.l_ b;replace HC':=HC'.l_ b;replace RX:=RX.l_ b;replace RY:=RY.l_ b;rw[HS1.out] at h1 ⊢;have R1:=hd_ h1;have ln1:=h1.len;clear h1;unfold whV;clear b;clear pSn;have pSn:=a7_ HX.out HY.out;have pM1:=True.intro)))
    | (go_at_call 88;(first
      | (have pm2:=pM2;refine (whole_add _ a1 n1 c1 _ _ a2 n2 c2 _ _ R1.out R2.out (by omega) (by omega)).mono ?_;rintro e wp3 ⟨a3,n3,c3,rfl,h3,b⟩;replace HB:=bt_ HB b;replace HX:=bl_ HX b;replace HY:=bl_ HY b;replace HR:=bl_ HR b;replace HA:=HA.l_ b;replace HC:=HC.l_ b;replace HA':=HA'.l_ b;replace HC':=HC'.l_ b;replace RX:=RX.l_ b;replace RY:=RY.l_ b;clear R1;clear R2;rw[my_,my_] at h3 ⊢;have R3:=hd_ h3;have ln3:=h3.len;clear h3;unfold whV;clear b;clear pSn;have pSn:=a7_ HX.out HY.out;clear pM2 pm2;have pM3:=True.intro)))
    | (go_at_call 90;(first
      | (have pm3:=pM3;refine (l2_ b m cap' lb ay ny cy _ _ HC.out RY.out (by omega) (by omega)).mono ?_;rintro e wp4 ⟨b4,m4,d4,rfl,h4,b⟩;replace HB:=bt_ HB b;replace HX:=bl_ HX b;replace HY:=bl_ HY b;replace HR:=bl_ HR b;replace HA:=HA.l_ b;replace HC:=HC.l_ b;replace HA':=HA'.l_ b;replace HC':=HC'.l_ b;replace RX:=RX.l_ b;replace RY:=RY.l_ b;replace R3:=R3.l_ b;rw[HD.out] at h4;have R4:=hd_ h4;have ln4:=h4.len;clear h4;clear b;clear pSn;have pSn:=a7_ HX.out HY.out;clear pM3 pm3;have pM4:=True.intro)))
    | (go_at_call 86;(first
      | (have pm4:=pM4;refine (ha_ _ a3 n3 c3 _ b4 m4 d4 _ _ R3.out R4.out (by omega) (by omega)).mono ?_;rintro e wp5 ⟨a5,n5,c5,b5,m5,d5,rfl,h5,g5,b⟩;replace HB:=bt_ HB b;replace HX:=bl_ HX b;replace HY:=bl_ HY b;replace HR:=bl_ HR b;replace HA:=HA.l_ b;replace HC:=HC.l_ b;replace HA':=HA'.l_ b;replace HC':=HC'.l_ b;replace RX:=RX.l_ b;replace RY:=RY.l_ b;clear R3;clear R4;rw[HZ2.out] at h5 g5 ⊢;have R5:=hd_ h5;have T5:=hd_ g5;clear h5 g5;obtain⟨r0,r1,r2⟩:=as_ HR.out;have f0:=af_ HR.out 0;have f1:=af_ HR.out 1;have f2:=af_ HR.out 2;have pSb:=fun u v q=>a7_ (bv_ (g:=w.heap.size+1+1) HX.out (by omega) u v q) (bv_ (g:=w.heap.size+1+1) HY.out (by omega) u v q);unfold frV;clear b;clear pSn;have pSn:=a7_ HX.out HY.out;clear pM4 pm4;have pM5:=True.intro))))
   have HG:=hd_ (bm_ HR.out (.bool (zneg q.num)) (.slice a5 n5 c5) (.slice b5 m5 d5))
   have HL:=hd_ (aw_ HB.out (show w.heap.size≤w.heap.size+1+1 by omega) (.bool (zneg q.num)) (.slice a5 n5 c5) (.slice b5 m5 d5))
   have HW1:=hd_ (R5.out.stored3 HR.out (zneg q.num) a5 n5 c5 (.slice b5 m5 d5))
   have HW2:=hd_ (T5.out.stored3 HR.out (zneg q.num) a5 n5 c5 (.slice b5 m5 d5))
   go_wp2
   refine bodyPost_ret (results_cell_row Tryz.results41 _ _ (w.heap.size+1+1) 44 #[.bool (zneg q.num),.slice a5 n5 c5,.slice b5 m5 d5] (0,0) _ rfl HG.out Tryz.underlying44 rfl (by kernel_rfl)) rfl ?_
   exact⟨a5,n5,c5,b5,m5,d5,rfl,HW1.out,HW2.out,HL.out⟩
theorem frac_sub(na:Bool)(a:OA_)(n cap:Nat)(la:List Nat)(b:OA_)(m cap':Nat)(lb:List Nat)(nb:Bool)(a':OA_)(n' c':Nat)(la':List Nat)(b':OA_)(m' d':Nat)(lb':List Nat)(w:World)(ha:Wd w a n cap la)(hb:Wd w b m cap' lb)(ha':Wd w a' n' c' la')(hb':Wd w b' m' d' lb')(hn:n≤9437184000)(hm:m≤9437184000)(hn':n'≤9437184000)(hm':m'≤9437184000) :
 Calls Tryz.prog 42 #[frV na a n cap b m cap',frV nb a' n' c' b' m' d'] w (LstQ (qval na (val la) (val lb) - qval nb (val la') (val lb')) w):=by
 have HB:=hd_ (ab_ (ab_ (aa_ w (.cells #[.bool na,.slice a n cap,.slice b m cap'] 44)) (aa_ _ (.cells #[.bool nb,.slice a' n' c',.slice b' m' d'] 44))) (aa_ _ (.cells #[.bool false,.slice none 0 0,.slice none 0 0] 44)))
 have HA:=hd_ (ha.later HB.out)
 have HC:=hd_ (hb.later HB.out)
 have HA':=hd_ (ha'.later HB.out)
 have HC':=hd_ (hb'.later HB.out)
 obtain⟨hx1,hx2,hx3⟩:=e9_ w #[.bool na,.slice a n cap,.slice b m cap'] #[.bool nb,.slice a' n' c',.slice b' m' d'] #[.bool false,.slice none 0 0,.slice none 0 0] 44 44 44
 have HX:=hd_ hx1
 have HY:=hd_ hx2
 have HR:=hd_ hx3
 have ta:=ha.trim_le
 have tb:=hb.trim_le
 have ta':=ha'.trim_le
 have tb':=hb'.trim_le
 clear ha hb ha' hb' hx1 hx2 hx3
 obtain⟨q,hq⟩:∃q,qval na (val la) (val lb) - qval nb (val la') (val lb')=q:=⟨_,rfl⟩
 rw[hq]
 have HQ:=hd_ hq
 clear hq
 have HT:Hid (qval na (val la) (val lb)+qval (!nb) (val la') (val lb')=q):=hd_ (by rw[o9_,←Rat.sub_eq_add_neg,HQ.out])
 go_enter Tryz.func42,Tryz.ntmps42
 unfold frV
 go_wp2
 generalize (((w.alloc (.cells #[.bool na,.slice a n cap,.slice b m cap'] 44)).alloc (.cells #[.bool nb,.slice a' n' c',.slice b' m' d'] 44)).alloc (.cells #[.bool false,.slice none 0 0,.slice none 0 0] 44))=W at *
 replace HB:=bt_ HB (dw_ W)
 replace HX:Hid (W.drew.heap[w.heap.size]? = _):=hd_ HX.out
 replace HY:Hid (W.drew.heap[w.heap.size+1]? = _):=hd_ HY.out
 replace HR:Hid (W.drew.heap[w.heap.size+1+1]? = some (.cells #[.bool false,.slice none 0 0,.slice none 0 0] 44 (0,0))):=hd_ HR.out
 replace HA:=HA.l_ (dw_ W)
 replace HC:=HC.l_ (dw_ W)
 replace HA':=HA'.l_ (dw_ W)
 replace HC':=HC'.l_ (dw_ W)
 have pSn:=a7_ HX.out HY.out
 go_region_held3 (fun w'=>w'.cell? ⟨w.heap.size,0,none⟩=some (.bool na)∧w'.cell? ⟨w.heap.size,1,none⟩=some (.slice a n cap)∧w'.cell? ⟨w.heap.size,2,none⟩=some (.slice b m cap')∧w'.cell? ⟨w.heap.size+1,0,none⟩=some (.bool nb)∧w'.cell? ⟨w.heap.size+1,1,none⟩=some (.slice a' n' c')∧w'.cell? ⟨w.heap.size+1,2,none⟩=some (.slice b' m' d')) (first | exact pSn | exact pSb _ _ _)
  (first
  | (go_at_call 91;(first
    | (refine (o5_ nb a' n' c' b' m' d' _).mono ?_;rintro e wp1 ⟨rfl,b⟩;replace HB:=bt_ HB b;replace HX:=bl_ HX b;replace HY:=bl_ HY b;replace HR:=bl_ HR b;replace HA:=HA.l_ b;replace HC:=HC.l_ b;replace HA':=HA'.l_ b;replace HC':=HC'.l_ b;unfold frV;clear b;clear pSn;have pSn:=a7_ HX.out HY.out;have pM1:=True.intro)))
  | (go_at_call 41;(first
    | (have pm1:=pM1;refine (p7_ na a n cap la b m cap' lb (!nb) a' n' c' la' b' m' d' lb' _ HA.out HC.out HA'.out HC'.out hn hm hn' hm').mono ?_;rintro e wp2 ⟨a1,n1,c1,b1,m1,d1,rfl,h1,g1,b⟩;replace HB:=bt_ HB b;replace HX:=bl_ HX b;replace HY:=bl_ HY b;replace HR:=bl_ HR b;replace HA:=HA.l_ b;replace HC:=HC.l_ b;replace HA':=HA'.l_ b;replace HC':=HC'.l_ b;rw[HT.out] at h1 g1 ⊢;have R1:=hd_ h1;have T1:=hd_ g1;clear h1 g1;obtain⟨r0,r1,r2⟩:=as_ HR.out;have f0:=af_ HR.out 0;have f1:=af_ HR.out 1;have f2:=af_ HR.out 2;have pSb:=fun u v q=>a7_ (bv_ (g:=w.heap.size+1+1) HX.out (by omega) u v q) (bv_ (g:=w.heap.size+1+1) HY.out (by omega) u v q);unfold frV;clear b;clear pSn;have pSn:=a7_ HX.out HY.out;clear pM1 pm1;have pM2:=True.intro))))
 have HG:=hd_ (bm_ HR.out (.bool (zneg q.num)) (.slice a1 n1 c1) (.slice b1 m1 d1))
 have HL:=hd_ (aw_ HB.out (show w.heap.size≤w.heap.size+1+1 by omega) (.bool (zneg q.num)) (.slice a1 n1 c1) (.slice b1 m1 d1))
 have HW1:=hd_ (R1.out.stored3 HR.out (zneg q.num) a1 n1 c1 (.slice b1 m1 d1))
 have HW2:=hd_ (T1.out.stored3 HR.out (zneg q.num) a1 n1 c1 (.slice b1 m1 d1))
 go_wp2
 refine bodyPost_ret (results_cell_row Tryz.results42 _ _ (w.heap.size+1+1) 44 #[.bool (zneg q.num),.slice a1 n1 c1,.slice b1 m1 d1] (0,0) _ rfl HG.out Tryz.underlying44 rfl (by kernel_rfl)) rfl ?_
 exact⟨a1,n1,c1,b1,m1,d1,rfl,HW1.out,HW2.out,HL.out⟩
theorem fracSaid:FracSaid where
 of:=fun z w hz=>eq_ z w hz
 ratio:=fun x y w hx hy=>rc_ x y w hx hy
 sign:=fun v q w h=>by
  obtain⟨neg,a,n,cap,la,b,m,cap',lb,rfl,ha,hb,hn,hm,rfl⟩:=h
  exact e7_ neg a n cap la b m cap' lb w ha hb (by omega) (by omega)
 same:=fun v u p q w h k=>by
  obtain⟨na,a,n,cap,la,b,m,cap',lb,rfl,ha,hb,hn,hm,rfl⟩:=h
  obtain⟨nb,a',n',c',la',b',m',d',lb',rfl,ha',hb',hn',hm',rfl⟩:=k
  exact frac_same na a n cap la b m cap' lb nb a' n' c' la' b' m' d' lb' w ha hb ha' hb' (by omega) (by omega) (by omega) (by omega)
 add:=fun v u p q w h k=>by
  obtain⟨na,a,n,cap,la,b,m,cap',lb,rfl,ha,hb,hn,hm,rfl⟩:=h
  obtain⟨nb,a',n',c',la',b',m',d',lb',rfl,ha',hb',hn',hm',rfl⟩:=k
  exact p7_ na a n cap la b m cap' lb nb a' n' c' la' b' m' d' lb' w ha hb ha' hb' (by omega) (by omega) (by omega) (by omega)
 sub:=fun v u p q w h k=>by
  obtain⟨na,a,n,cap,la,b,m,cap',lb,rfl,ha,hb,hn,hm,rfl⟩:=h
  obtain⟨nb,a',n',c',la',b',m',d',lb',rfl,ha',hb',hn',hm',rfl⟩:=k
  exact frac_sub na a n cap la b m cap' lb nb a' n' c' la' b' m' d' lb' w ha hb ha' hb' (by omega) (by omega) (by omega) (by omega)
 mul:=fun v u p q w h k=>by
  obtain⟨na,a,n,cap,la,b,m,cap',lb,rfl,ha,hb,hn,hm,rfl⟩:=h
  obtain⟨nb,a',n',c',la',b',m',d',lb',rfl,ha',hb',hn',hm',rfl⟩:=k
  exact qi_ na a n cap la b m cap' lb nb a' n' c' la' b' m' d' lb' w ha hb ha' hb' (by omega) (by omega) (by omega) (by omega)
 quo:=fun v u p q w h k=>by
  obtain⟨na,a,n,cap,la,b,m,cap',lb,rfl,ha,hb,hn,hm,rfl⟩:=h
  obtain⟨nb,a',n',c',la',b',m',d',lb',rfl,ha',hb',hn',hm',rfl⟩:=k
  exact p2_ na a n cap la b m cap' lb nb a' n' c' la' b' m' d' lb' w ha hb ha' hb' (by omega) (by omega) (by omega) (by omega)

theorem du_:(Tryz.prog.info? 44).map (fun i=>(i.zero,i.size,i.bytes))=some (some (.agg #[.bool false,.slice none 0 0,.slice none 0 0]),3,56):=by kernel_rfl
theorem lens_take{α:Type}{LL:List (List α)}{k:Nat}(h:k < LL.length)(c:Int):(∀M∈LL.take (k+1),(M.length:Int)=c)↔(∀M∈LL.take k,(M.length:Int)=c)∧((LL.getD k []).length:Int)=c:=by
 have h1:LL.take (k+1)=LL.take k ++ [LL.getD k []]:=by
  rw[List.take_succ_eq_append_getElem h,List.getD_eq_getElem?_getD,List.getElem?_eq_getElem h];rfl
 rw[h1]
 constructor
 ·intro h2
  exact⟨fun M hM=>h2 M (List.mem_append_left _ hM),h2 _ (List.mem_append_right _ (List.mem_singleton.2 rfl))⟩
 ·rintro ⟨h2,h3⟩ M hM
  rcases List.mem_append.1 hM with hM | hM
  ·exact h2 M hM
  ·rw[List.mem_singleton.1 hM];exact h3
theorem ll_mem{α:Type}{LL:List (List α)}{k:Nat}(h:k < LL.length):LL.getD k []∈LL:=by
 rw[List.getD_eq_getElem?_getD,List.getElem?_eq_getElem h];exact List.getElem_mem h
theorem row_allOf(a:OA_)(n c:Nat)(LL:List (List Fx))(z:Int)(r:Bool)(w:World)(h:Fxss w a n c LL)(hr:Hid (r=true↔∀M∈LL,(M.length:Int)=z)):Calls Tryz.prog 146 #[.slice a n c,.int .i64 z] w (fun e w'=>e=.returned (.bool r)∧w=w'):=by
 have HK:=hd_ h
 have HLl:=hd_ h.len
 have hbd:=h.bound
 clear h
 go_enter Tryz.func146,Tryz.ntmps146
 go_wp2
 go_loopw [8] (fun iv wr=>Hid (wr=w)∧∃k:Nat,k≤n∧iv=.int .i64 (k:Int)∧Hid (∀M∈LL.take k,(M.length:Int)=z)) (fun iv _=>n - (intOf iv).toNat)
 case atStart=>exact⟨hd_ rfl,0,by omega,rfl,hd_ (fun M hM=>by simp at hM)⟩
 case round=>
  obtain⟨HWE,k,hk,rfl,HA⟩:=hrel
  obtain rfl:=HWE.out
  by_cases hlt:k < n
  ·obtain⟨bb,off,rfl,a',n',c',e0,h1⟩:=HK.out.at hlt
   have hl1:=h1.len
   have hbd1:=h1.bound
   have HT:=hd_ (lens_take (show k < LL.length by rw[HLl.out];exact hlt) z)
   have HM:Hid (LL.getD k []∈LL):=hd_ (ll_mem (by rw[HLl.out];exact hlt))
   have hki:(k:Int) < (n:Int):=by omega
   have HL1:Hid ((LL.getD k []).length=n'):=hd_ hl1
   clear h1 hl1
   by_cases hnz:(n':Int)=z
   ·have HA9:Hid (∀M∈LL.take (k+1),(M.length:Int)=z):=hd_ (HT.out.2 ⟨HA.out,by rw[HL1.out];exact hnz⟩)
    have hq:((n':Int) == z)=true:=by simp[hnz]
    clear hnz HA HT HM HL1
    go_wp2
    go_roundw
    case rel=>exact⟨hd_ trivial,k+1,by omega,by go_num,HA9⟩
    case measure=>simp[intOf];omega
   ·have hrf:r=false:=by
     cases r with
     | false=>rfl
     | true=>exact absurd (hr.out.1 rfl _ HM.out) (by rw[HL1.out];exact hnz)
    subst hrf
    have hq:((n':Int) == z)=false:=by simp[hnz]
    clear HA HT HM HL1
    go_wp2
    go_ret
    exact⟨rfl,rfl⟩
  ·obtain rfl:k=n:=by omega
   have hrt:r=true:=hr.out.2 (fun M hM=>HA.out M (by rw[List.take_of_length_le (by rw[HLl.out];exact Nat.le_refl _)];exact hM))
   subst hrt
   go_wp2
   go_ret
   exact⟨rfl,rfl⟩
def colF (LL:List (List Fx)) (i:Nat):List Fx:=LL.map (fun L=>L.getD i Fx.zero)
theorem ja_(LL:List (List Fx))(i:Nat):(colF LL i).length=LL.length:=List.length_map _
theorem colF_at{LL:List (List Fx)}{i k:Nat}(h:k < LL.length):(colF LL i).getD k Fx.zero=(LL.getD k []).getD i Fx.zero:=by
 unfold colF
 rw[List.getD_eq_getElem?_getD,List.getElem?_map,List.getD_eq_getElem?_getD (l:=LL),List.getElem?_eq_getElem h];rfl
theorem rl_(a:OA_)(n c:Nat)(LL:List (List Fx))(i:Nat)(w:World)(h:Fxss w a n c LL)(hn:n≤1000)(hi9:∀M∈LL,i < M.length):Calls Tryz.prog 147 #[.slice a n c,.int .i64 (i:Int)] w (fun e w'=>∃(a':OA_) (c':Nat),e=.returned (.slice a' n c')∧Fxs w' a' n c' (colF LL i)∧Below w.heap.size w w'):=by
 have HK:=hd_ h
 have HLl:=hd_ h.len
 have hbd:=h.bound
 have HI:=hd_ hi9
 clear h hi9
 obtain⟨T,hT⟩:∃T,colF LL i=T:=⟨_,rfl⟩
 have HTL:Hid (T.length=n):=hd_ (by rw[←hT,ja_,HLl.out])
 have HTA:Hid (∀k,k < n→T.getD k Fx.zero=(LL.getD k []).getD i Fx.zero):=hd_ (fun k hk=>hT▸colF_at (by rw[HLl.out];exact hk))
 rw[hT]
 clear hT
 obtain⟨i0,hi,hz0,hz1,hz2⟩:=info_parts du_
 go_enter Tryz.func147,Tryz.ntmps147
 go_wp2_with (at_make;refine ca_ _ rfl _ _ 33 rfl (w.heap.size) 44 i0 Tryz.underlying33 hi hz0 hz1 hz2 _ _ _ _ n rfl rfl (by omega) (by omega) (by omega) (by simp) ?_;intro wm hmade hgm hszm)
 have HO0:=hd_ hmade
 have HB0:Hid (Below w.heap.size w wm):=hd_ ((Below.refl _ _).grown hgm (Nat.le_refl _) (fun k hk=>by cases hk))
 clear hmade hgm
 go_loopw [12] (fun iv wr=>∃k r:Nat,k+r=n∧iv=.int .i64 (k:Int)∧Hid (HalfC wr w.heap.size 44 (.slice (some ⟨w.heap.size,0,none⟩) n n) (T.take k) r)∧Hid (Below w.heap.size w wr)∧w.heap.size < wr.heap.size) (fun iv _=>n - (intOf iv).toNat)
 case atStart=>exact⟨0,n,by omega,rfl,HO0,HB0,by omega⟩
 case round=>
  clear HO0 HB0
  obtain⟨k,r,hk,rfl,HO,HB,hsz⟩:=hrel
  by_cases hlt:k < n
  ·have hkT:k < T.length:=by rw[HTL.out];exact hlt
   obtain⟨r,rfl⟩:∃r',r=r'+1:=⟨r - 1,by omega⟩
   have HT:Hid (T.take (k+1)=T.take k ++ [T.getD k Fx.zero]):=hd_ (mu_ hkT)
   obtain⟨bb,off,rfl,a',n',c',e0,h1⟩:=HK.out.at hlt
   have e0':=cell_later HB.out e0
   have hin:i < n':=by rw[←h1.len];exact HI.out _ (ll_mem (by rw[HLl.out];exact hlt))
   have hbd1:=h1.bound
   obtain⟨b2,off2,rfl,q0,q1,q2,hok⟩:=h1.at hin
   rw[←HTA.out k hlt] at q0 q1 q2 hok
   generalize T.getD k Fx.zero=x at *
   obtain⟨sx,ax,nx,cx,lax,bx,mx,dx,lbx⟩:=x
   simp only at q0 q1 q2
   obtain⟨q0,q1,q2⟩:=ar_ ⟨q0,q1,q2⟩ HB.out
   have HX:=hd_ (hok.later HB.out)
   have hki:(k:Int) < (n:Int):=by omega
   have hii:(i:Int) < (n':Int):=by omega
   obtain⟨⟨p0,p1,p2⟩,f0,f1,f2⟩:=j7_ HO.out (k:=k) (by rw[dq_ (Nat.le_of_lt hkT)])
   obtain⟨hst,hgr⟩:=HO.out.stored (k:=k) (by rw[dq_ (Nat.le_of_lt hkT)]) _ HX.out
   rw[←HT.out] at hst
   have HS:=hd_ hst
   have HB5:=hd_ (HB.out.grown hgr HB.out.size (fun g' hg'=>by simp at hg';omega))
   have hsz5:=Nat.lt_of_lt_of_le hsz hgr.size
   clear hst hgr HO HB HT h1 hok e0 HX
   go_wp2
   go_roundw
   case rel=>exact⟨k+1,r,by omega,by go_num,HS,HB5,hsz5⟩
   case measure=>simp[intOf];omega
  ·obtain rfl:k=n:=by omega
   obtain rfl:r=0:=by omega
   have HF:=hd_ (HO.out.done.whole HTL.out)
   obtain⟨a9,c9,e9,h9⟩:=HF.out.out
   rw[HTL.out] at e9 h9
   cases e9
   have HF9:=hd_ h9
   clear HO h9 HF
   go_wp2
   go_ret
   exact⟨_,_,rfl,HF9.out,HB.out⟩
theorem g3_(v:Value)(z:Rat)(a0:OA_)(n0 c0:Nat)(L0:List Fx)(w:World)(hv:Fr w v z 2097152000)(h0:Fxs w a0 n0 c0 L0)(hn:n0≤300)(ht0:thin 2097152000 L0):Calls Tryz.prog 110 #[v,.slice a0 n0 c0] w (LstRow 44 (ag_ z (fqs L0)) w):=by
 have HK0:=hd_ h0
 have HLl0:=hd_ h0.len
 have hbd0:=h0.bound
 have HTh0:=hd_ ht0
 clear h0 ht0
 obtain⟨vs,va,vn,vc,vla,vb,vm,vd,vlb,rfl,hv1,hv2,hvn,hvm,hvq⟩:=hv
 have HV1:=hd_ hv1
 have HV2:=hd_ hv2
 have HVQ:=hd_ hvq
 clear hv1 hv2 hvq
 have HTL:Hid ((ag_ z (fqs L0)).length=n0):=hd_ (by rw[a5_,ap_,HLl0.out])
 obtain⟨T,hTe⟩:∃T,ag_ z (fqs L0)=T:=⟨_,rfl⟩
 have ET:=hd_ hTe
 rw[hTe] at HTL
 try rw[hTe]
 clear hTe
 obtain⟨i0,hi,hz0,hz1,hz2⟩:=info_parts du_
 go_enter Tryz.func110,Tryz.ntmps110
 try unfold frV
 go_wp2_with (at_make;refine ca_ _ rfl _ _ 33 rfl (w.heap.size+1) 44 i0 Tryz.underlying33 hi hz0 hz1 hz2 _ _ _ _ n0 rfl rfl (by omega) (by omega) (by omega) (by simp) ?_;intro wm hmade hgm hszm)
 have HO0:=hd_ (Half.start hmade)
 have HB0:Hid (Below w.heap.size w wm):=hd_ (ab_ (aa_ _ _) ((Below.refl _ _).grown hgm (Nat.le_refl _) (fun k hk=>by cases hk)))
 have X00:Hid (wm.heap[w.heap.size]? = some (.cells #[.bool vs,.slice va vn vc,.slice vb vm vd] 44 (0,0))):=hd_ (ae_ (aj_ _ _ _) ((Below.refl _ _).grown hgm (Nat.le_refl _) (fun k hk=>by cases hk)))
 clear hmade hgm
 try simp only[World.size_alloc] at hszm HO0
 go_loopw [12] (fun iv wr=>∃k r:Nat,k+r=n0∧iv=.int .i64 (k:Int)∧Hid (Half wr (w.heap.size+1) 44 (.slice (some ⟨w.heap.size+1,0,none⟩) n0 n0) (T.take k) r)∧Hid (Below w.heap.size w wr)∧w.heap.size+1 < wr.heap.size∧Hid (wr.heap[w.heap.size]? = some (.cells #[.bool vs,.slice va vn vc,.slice vb vm vd] 44 (0,0)))) (fun iv _=>n0 - (intOf iv).toNat)
 case atStart=>exact⟨0,n0,by omega,rfl,HO0,HB0,by omega,X00⟩
 case round=>
  clear HO0 HB0 X00
  obtain⟨k,r,hk,rfl,HO,HB,hsz,X0⟩:=hrel
  by_cases hlt:k < n0
  ·have hkT:k < T.length:=by rw[HTL.out];exact hlt
   obtain⟨r,rfl⟩:∃r',r=r'+1:=⟨r - 1,by omega⟩
   have HT:Hid (T.take (k+1)=T.take k ++ [T.getD k 0]):=hd_ (nj_ hkT)
   have HTv:Hid (T.getD k 0=z * (L0.getD k Fx.zero).q):=hd_ (by rw[←ET.out];rw[jy_ (by rw[ap_,HLl0.out];exact hlt),cu_ (by rw[HLl0.out];exact hlt)])
   obtain⟨bb0,off0,rfl,e00,e10,e20,hok0⟩:=HK0.out.at hlt
   have hth0:=HTh0.out _ (d8_ (L:=L0) (k:=k) (by rw[HLl0.out];exact hlt))
   generalize L0.getD k Fx.zero=xk0 at *
   obtain⟨sk0,ak0,nk0,ck0,lak0,bk0,mk0,dk0,lbk0⟩:=xk0
   obtain⟨hA0,hB0⟩:=hok0
   simp only at e00 e10 e20 hA0 hB0 hth0
   obtain⟨hth0,htj0⟩:=hth0
   have HE0:Hid (w.cell? ⟨bb0,off0+k * 3,none⟩=some (.bool sk0)∧w.cell? ⟨bb0,off0+k * 3+1,none⟩=some (.slice ak0 nk0 ck0)∧w.cell? ⟨bb0,off0+k * 3+2,none⟩=some (.slice bk0 mk0 dk0)):=hd_ ⟨e00,e10,e20⟩
   have AK0:=hd_ hA0
   have BK0:=hd_ hB0
   clear hA0 hB0 e00 e10 e20
   generalize T.getD k 0=tk at *
   replace HTv:Hid (tk=z * qval sk0 (val lak0) (val lbk0)):=HTv
   have hki:(k:Int) < (n0:Int):=by omega
   have hk0:(0:Int)≤(k:Int):=by omega
   obtain⟨e00,e10,e20⟩:=ar_ HE0.out HB.out
   obtain⟨x0,x1,x2⟩:=as_ X0.out
   go_wp2
   have b0:Below wr.heap.size wr wr.drew:=(Below.refl _ _).drew
   replace HB:=bt_ HB b0
   replace HO:=HO.l_ b0
   replace X0:=bl_ X0 b0
   replace hsz:=Nat.lt_of_lt_of_le hsz b0.size
   clear e00 e10 e20 x0 x1 x2 b0
   obtain⟨e00,e10,e20⟩:=ar_ HE0.out HB.out
   obtain⟨x0,x1,x2⟩:=as_ X0.out
   first | go_region_with (first
    | (go_at_call 43;refine (fracSaid.mul _ _ z (qval sk0 (val lak0) (val lbk0)) _ (Fr.of (HV1.out.later HB.out) (HV2.out.later HB.out) (by omega) (by omega) HVQ.out) (Fr.of (AK0.out.later HB.out) (BK0.out.later HB.out) (by omega) (by omega) rfl)).mono ?_;rintro e w4 ⟨a4,n4,c4,b4,m4,d4,rfl,h4,g4,bw⟩;rw[←HTv.out] at h4 g4 ⊢;clear e00 e10 e20 x0 x1 x2;replace HB:=bt_ HB bw;replace HO:=HO.l_ bw;replace X0:=bl_ X0 bw;have hsz4:w.heap.size+1 < w4.heap.size:=Nat.lt_of_lt_of_le hsz bw.size;have HA4:=hd_ h4;have HB4:=hd_ g4;clear bw hsz h4 g4;unfold frV;obtain⟨⟨p0,p1,p2⟩,f0,f1,f2⟩:=HO.out.cell (k:=k) (by rw[dq_ (Nat.le_of_lt hkT)]))) | fail
   all_goals (
    obtain⟨hst,hgr⟩:=HO.out.stored (k:=k) (by rw[dq_ (Nat.le_of_lt hkT)]) tk a4 n4 c4 b4 m4 d4 HA4.out HB4.out
    rw[←HT.out] at hst
    have HS:=hd_ hst
    have HB5:=hd_ (HB.out.grown hgr HB.out.size (fun g' hg'=>by simp at hg';omega))
    have hsz5:=Nat.lt_of_lt_of_le hsz4 hgr.size
    have X5:=hd_ ((hgr.block w.heap.size (by omega) (fun e2=>by simp at e2)).trans X0.out)
    clear X0
    clear hst hgr HA4 HB4 HO HB HT HTv p0 p1 p2 f0 f1 f2
    go_wp2
    go_roundw
    case rel=>exact⟨k+1,r,by omega,by go_num,HS,HB5,hsz5,X5⟩
    case measure=>simp[intOf];omega)
  ·obtain rfl:k=n0:=by omega
   have HF:=hd_ (HO.out.whole HTL.out (by omega))
   obtain⟨a9,c9,e9,h9⟩:=HF.out.out
   rw[HTL.out] at e9 h9
   cases e9
   clear HO h9
   go_wp2
   go_ret
   exact⟨_,rfl,iv_ HF.out (by omega),HB.out⟩
theorem ga_(v:Value)(z:Rat)(a0:OA_)(n0 c0:Nat)(L0:List Fx)(w:World)(hv:Fr w v z 2097152000)(h0:Fxs w a0 n0 c0 L0)(hn:n0≤300)(ht0:thin 2097152000 L0):Calls Tryz.prog 110 #[v,.slice a0 n0 c0] w (ds_ (ag_ z (fqs L0)) w):=
 (g3_ v z a0 n0 c0 L0 w hv h0 hn ht0).mono fun _ _ h9=>h9.out
theorem l5_{l m:List Rat}{k:Nat}(h:k < l.length)(h':k < m.length):(radd l (ag_ (-1) m)).getD k 0=l.getD k 0 - m.getD k 0:=by
 rw[g8_ h (by rw[a5_];exact h'),jy_ h'];grind
theorem o2_(a0:OA_)(n0 c0:Nat)(L0:List Fx)(a1:OA_)(n1 c1:Nat)(L1:List Fx)(w:World)(h0:Fxs w a0 n0 c0 L0)(h1:Fxs w a1 n1 c1 L1)(hn:n0≤300)(ht0:thin 2097152000 L0)(ht1:thin 2097152000 L1)(hs:Hid (n0=n1)):Calls Tryz.prog 142 #[.slice a0 n0 c0,.slice a1 n1 c1] w (qg_ (radd (fqs L0) (ag_ (-1) (fqs L1))) (.bool true) w):=by
 have HK0:=hd_ h0
 have HLl0:=hd_ h0.len
 have hbd0:=h0.bound
 have HTh0:=hd_ ht0
 clear h0 ht0
 have HK1:=hd_ h1
 have HLl1:=hd_ h1.len
 have hbd1:=h1.bound
 have HTh1:=hd_ ht1
 clear h1 ht1
 obtain rfl:=hs.out
 clear hs
 have HTL:Hid ((radd (fqs L0) (ag_ (-1) (fqs L1))).length=n0):=hd_ (by rw[c5_ _ _ (by rw[a5_,ap_,ap_,HLl0.out,HLl1.out]),ap_,HLl0.out])
 obtain⟨T,hTe⟩:∃T,radd (fqs L0) (ag_ (-1) (fqs L1))=T:=⟨_,rfl⟩
 have ET:=hd_ hTe
 rw[hTe] at HTL
 try rw[hTe]
 clear hTe
 obtain⟨i0,hi,hz0,hz1,hz2⟩:=info_parts du_
 go_enter Tryz.func142,Tryz.ntmps142
 go_wp2_with (at_make;refine ca_ _ rfl _ _ 33 rfl (w.heap.size) 44 i0 Tryz.underlying33 hi hz0 hz1 hz2 _ _ _ _ n0 rfl rfl (by omega) (by omega) (by omega) (by simp) ?_;intro wm hmade hgm hszm)
 have HO0:=hd_ (Half.start hmade)
 have HB0:Hid (Below w.heap.size w wm):=hd_ ((Below.refl _ _).grown hgm (Nat.le_refl _) (fun k hk=>by cases hk))
 clear hmade hgm
 try simp only[World.size_alloc] at hszm HO0
 go_loopw [18] (fun iv wr=>∃k r:Nat,k+r=n0∧iv=.int .i64 (k:Int)∧Hid (Half wr (w.heap.size) 44 (.slice (some ⟨w.heap.size,0,none⟩) n0 n0) (T.take k) r)∧Hid (Below w.heap.size w wr)∧w.heap.size < wr.heap.size) (fun iv _=>n0 - (intOf iv).toNat)
 case atStart=>exact⟨0,n0,by omega,rfl,HO0,HB0,by omega⟩
 case round=>
  clear HO0 HB0
  obtain⟨k,r,hk,rfl,HO,HB,hsz⟩:=hrel
  by_cases hlt:k < n0
  ·have hkT:k < T.length:=by rw[HTL.out];exact hlt
   obtain⟨r,rfl⟩:∃r',r=r'+1:=⟨r - 1,by omega⟩
   have HT:Hid (T.take (k+1)=T.take k ++ [T.getD k 0]):=hd_ (nj_ hkT)
   have HTv:Hid (T.getD k 0=(L0.getD k Fx.zero).q - (L1.getD k Fx.zero).q):=hd_ (by rw[←ET.out];rw[l5_ (by rw[ap_,HLl0.out];exact hlt) (by rw[ap_,HLl1.out];exact hlt),cu_ (by rw[HLl0.out];exact hlt),cu_ (by rw[HLl1.out];exact hlt)])
   obtain⟨bb0,off0,rfl,e00,e10,e20,hok0⟩:=HK0.out.at hlt
   have hth0:=HTh0.out _ (d8_ (L:=L0) (k:=k) (by rw[HLl0.out];exact hlt))
   generalize L0.getD k Fx.zero=xk0 at *
   obtain⟨sk0,ak0,nk0,ck0,lak0,bk0,mk0,dk0,lbk0⟩:=xk0
   obtain⟨hA0,hB0⟩:=hok0
   simp only at e00 e10 e20 hA0 hB0 hth0
   obtain⟨hth0,htj0⟩:=hth0
   have HE0:Hid (w.cell? ⟨bb0,off0+k * 3,none⟩=some (.bool sk0)∧w.cell? ⟨bb0,off0+k * 3+1,none⟩=some (.slice ak0 nk0 ck0)∧w.cell? ⟨bb0,off0+k * 3+2,none⟩=some (.slice bk0 mk0 dk0)):=hd_ ⟨e00,e10,e20⟩
   have AK0:=hd_ hA0
   have BK0:=hd_ hB0
   clear hA0 hB0 e00 e10 e20
   obtain⟨bb1,off1,rfl,e01,e11,e21,hok1⟩:=HK1.out.at hlt
   have hth1:=HTh1.out _ (d8_ (L:=L1) (k:=k) (by rw[HLl1.out];exact hlt))
   generalize L1.getD k Fx.zero=xk1 at *
   obtain⟨sk1,ak1,nk1,ck1,lak1,bk1,mk1,dk1,lbk1⟩:=xk1
   obtain⟨hA1,hB1⟩:=hok1
   simp only at e01 e11 e21 hA1 hB1 hth1
   obtain⟨hth1,htj1⟩:=hth1
   have HE1:Hid (w.cell? ⟨bb1,off1+k * 3,none⟩=some (.bool sk1)∧w.cell? ⟨bb1,off1+k * 3+1,none⟩=some (.slice ak1 nk1 ck1)∧w.cell? ⟨bb1,off1+k * 3+2,none⟩=some (.slice bk1 mk1 dk1)):=hd_ ⟨e01,e11,e21⟩
   have AK1:=hd_ hA1
   have BK1:=hd_ hB1
   clear hA1 hB1 e01 e11 e21
   generalize T.getD k 0=tk at *
   replace HTv:Hid (tk=qval sk0 (val lak0) (val lbk0) - qval sk1 (val lak1) (val lbk1)):=HTv
   have hki:(k:Int) < (n0:Int):=by omega
   have hk0:(0:Int)≤(k:Int):=by omega
   obtain⟨e00,e10,e20⟩:=ar_ HE0.out HB.out
   obtain⟨e01,e11,e21⟩:=ar_ HE1.out HB.out
   go_wp2
   have b0:Below wr.heap.size wr wr.drew:=(Below.refl _ _).drew
   replace HB:=bt_ HB b0
   replace HO:=HO.l_ b0
   replace hsz:=Nat.lt_of_lt_of_le hsz b0.size
   clear e00 e10 e20 e01 e11 e21 b0
   obtain⟨e00,e10,e20⟩:=ar_ HE0.out HB.out
   obtain⟨e01,e11,e21⟩:=ar_ HE1.out HB.out
   first | go_region_with (first
    | (go_at_call 42;refine (fracSaid.sub _ _ (qval sk0 (val lak0) (val lbk0)) (qval sk1 (val lak1) (val lbk1)) _ (Fr.of (AK0.out.later HB.out) (BK0.out.later HB.out) (by omega) (by omega) rfl) (Fr.of (AK1.out.later HB.out) (BK1.out.later HB.out) (by omega) (by omega) rfl)).mono ?_;rintro e w4 ⟨a4,n4,c4,b4,m4,d4,rfl,h4,g4,bw⟩;rw[←HTv.out] at h4 g4 ⊢;clear e00 e10 e20 e01 e11 e21;replace HB:=bt_ HB bw;replace HO:=HO.l_ bw;have hsz4:w.heap.size < w4.heap.size:=Nat.lt_of_lt_of_le hsz bw.size;have HA4:=hd_ h4;have HB4:=hd_ g4;clear bw hsz h4 g4;unfold frV;obtain⟨⟨p0,p1,p2⟩,f0,f1,f2⟩:=HO.out.cell (k:=k) (by rw[dq_ (Nat.le_of_lt hkT)]))) | fail
   all_goals (
    obtain⟨hst,hgr⟩:=HO.out.stored (k:=k) (by rw[dq_ (Nat.le_of_lt hkT)]) tk a4 n4 c4 b4 m4 d4 HA4.out HB4.out
    rw[←HT.out] at hst
    have HS:=hd_ hst
    have HB5:=hd_ (HB.out.grown hgr HB.out.size (fun g' hg'=>by simp at hg';omega))
    have hsz5:=Nat.lt_of_lt_of_le hsz4 hgr.size
    clear hst hgr HA4 HB4 HO HB HT HTv p0 p1 p2 f0 f1 f2
    go_wp2
    go_roundw
    case rel=>exact⟨k+1,r,by omega,by go_num,HS,HB5,hsz5⟩
    case measure=>simp[intOf];omega)
  ·obtain rfl:k=n0:=by omega
   have HF:=hd_ (HO.out.whole HTL.out (by omega))
   obtain⟨a9,c9,e9,h9⟩:=HF.out.out
   rw[HTL.out] at e9 h9
   cases e9
   have HF9:=hd_ h9
   clear HO h9 HF
   go_wp2
   go_ret2
   exact⟨_,_,_,rfl,HF9.out,HB.out⟩
def rsum:List Rat→Rat
 | [] => 0
 | q :: l=>q+rsum l
theorem kj_:∀l m:LR_,rsum (l ++ m)=rsum l+rsum m
 | [],m=>by
   show rsum m=0+rsum m
   grind
 | q :: l,m=>by
   show q+rsum (l ++ m)=(q+rsum l)+rsum m
   rw[kj_ l m];grind
theorem kc_{K:Nat}:∀{l:List Rat},(∀q∈l,qlen q≤K)→qlen (rsum l)≤1+l.length * (K+2)
 | [],_=>by
   show qlen 0≤1+0 * (K+2)
   rw[c9_];omega
 | q :: l,h=>by
   have h1:=kc_ (l:=l) (fun x hx=>h x (List.mem_cons_of_mem _ hx))
   have h2:=h q (List.mem_cons_self ..)
   have h3:=eu_ q (rsum l)
   have h4:(q :: l).length * (K+2)=l.length * (K+2)+(K+2):=by rw[List.length_cons,Nat.add_mul,Nat.one_mul]
   show qlen (q+rsum l)≤_
   omega
theorem Fxs.take{w:World}{a:Option Addr}{n cap:Nat}{L:List Fx}(h:Fxs w a n cap L){k:Nat}(hk:k≤n):Fxs w a k cap (L.take k):=by
 obtain⟨h1,h2,h3,h4,h6,h5⟩:=h
 refine ⟨by rw[List.length_take];omega,by omega,h3,h4,fun x hx=>h6 x (List.mem_of_mem_take hx),?_⟩
 rcases h5 with h0 | ⟨b,off,e,hc⟩
 ·exact .inl (by omega)
 ·refine .inr ⟨b,off,e,fun j hj=>?_⟩
  have h7:=hc j (by omega)
  have e2:(L.take k).getD j Fx.zero=L.getD j Fx.zero:=by
   rw[List.getD_eq_getElem?_getD,List.getElem?_take,if_pos hj,←List.getD_eq_getElem?_getD]
  rw[e2]
  exact h7
theorem Fxs.drop{w:World}{b off m cap q:Nat}{L:List Fx}(h:Fxs w (some ⟨b,off,none⟩) (q+m) cap L):Fxs w (some ⟨b,off+q * 3,none⟩) m (cap - q) (L.drop q):=by
 have h1:=h.bound
 have h2:=h.len
 refine ⟨by rw[List.length_drop];omega,by omega,by omega,fun e=>(by cases e),fun x hx=>h.ok (List.mem_of_mem_drop hx),?_⟩
 rcases h.2.2.2.2.2 with h0 | ⟨b',off',e,hc⟩
 ·exact .inl (by omega)
 ·simp only[Option.some.injEq,Addr.mk.injEq,and_true] at e
  obtain⟨rfl,rfl⟩:=e
  refine .inr ⟨b,off+q * 3,rfl,fun j hj=>?_⟩
  have h7:=hc (q+j) (by omega)
  have e2:(L.drop q).getD j Fx.zero=L.getD (q+j) Fx.zero:=by
   rw[List.getD_eq_getElem?_getD,List.getElem?_drop,←List.getD_eq_getElem?_getD]
  have e3:off+q * 3+j * 3=off+(q+j) * 3:=by omega
  rw[e2,e3]
  exact h7
theorem thin.qs{N:Nat}{L:List Fx}{w:World}(h:thin N L)(hok:∀x∈L,x.ok w):∀q∈fqs L,qlen q≤N+1:=fun q hq=>by
 obtain⟨x,hx,rfl⟩:=List.mem_map.1 hq
 exact ((hok x hx).fr (h x hx).1 (h x hx).2).len
theorem Fxs.oks{w:World}{a:Option Addr}{n cap:Nat}{L:List Fx}(h:Fxs w a n cap L):∀x∈L,x.ok w:=h.2.2.2.2.1
def LstT (L:List Fx) (w:World) (e:Ending) (w':World):Prop:=∃(s:Bool) (a:OA_) (n c:Nat) (la:List Nat) (b:OA_) (m d:Nat) (lb:List Nat),e=.returned (frV s a n c b m d)∧Wd w' a n c la∧Wd w' b m d lb∧qval s (val la) (val lb)=rsum (fqs L)∧
 ((⟨s,a,n,c,la,b,m,d,lb⟩:Fx)∈L∨(⟨s,a,n,c,la,b,m,d,lb⟩:Fx).right)∧(L.length≠1→(⟨s,a,n,c,la,b,m,d,lb⟩:Fx).right)∧Below w.heap.size w w'
theorem nc_{w:World}{x:Fx}(h:x.ok w)(hr:x.right){K:Nat}(hK:qlen x.q≤K):x.n≤K∧x.m≤K:=by
 obtain⟨h1,h2⟩:=h
 obtain⟨-,h4,h5⟩:=hr
 have e1:=h1.len
 have e2:=h2.len
 rw[h4] at e1
 rw[h5] at e2
 have:=bd_ x.q
 have:=bc_ x.q
 omega
theorem k4_{w:World}{x:Fx}{L:List Fx}{N:Nat}(hx:x.ok w)(hq:x.q=rsum (fqs L))(hm:x∈L∨x.right)(ht:thin N L)(hl:qlen (rsum (fqs L))≤2097152000)(hN:N≤2097152000):x.n≤2097152000∧x.m≤2097152000:=by
 rcases hm with hm | hm
 ·have:=ht x hm
  omega
 ·exact nc_ hx hm (by rw[hq];exact hl)
theorem m5_(n:Nat):∀(a:OA_) (cap:Nat) (L:List Fx) (N:Nat) (w:World),Fxs w a n cap L→thin N L→1+(n - 1) * (N+3)≤2097152000→N≤2097152000→Calls Tryz.prog 145 #[.slice a n cap] w (LstT L w):=by
 induction n using Nat.strongRecOn with
 | _ n ih=>
 intro a cap L N w h ht hb hN
 obtain⟨hb1,hb2⟩:=h.bound
 have HTh:=hd_ ht
 have HBd:=hd_ hb
 have HB:=hd_ (aa_ w (.cells #[.bool false,.slice none 0 0,.slice none 0 0] 44))
 have HR:=hd_ (aj_ w #[.bool false,.slice none 0 0,.slice none 0 0] 44)
 have HKw:=hd_ h
 have HK:=hd_ (h.later HB.out)
 have HLl:=hd_ h.len
 clear h ht hb
 by_cases h0:n=0
 ·subst h0
  have hQ0:((0:Int):Rat)=rsum (fqs L):=by rw[List.eq_nil_of_length_eq_zero HLl.out];rfl
  obtain⟨q,htq⟩:∃q,rsum (fqs L)=q:=⟨_,rfl⟩
  have HTQ:=hd_ htq
  have HQ0:Hid (((0:Int):Rat)=q):=hd_ (hQ0.trans htq)
  clear ih HK HKw hQ0 htq
  go_enter Tryz.func145,Tryz.ntmps145
  obtain⟨vk0,vk1,vk2⟩:=as_ HR.out
  go_wp2_with fail
  refine (eq_ 0 _ es_).mono ?_
  rintro e wv1 ⟨a1,n1,c1,b1,m1,d1,rfl,h1,g1,b⟩
  clear vk0 vk1 vk2
  replace HB:=bt_ HB b
  replace HR:=bl_ HR b
  clear b
  rw[HQ0.out] at h1 g1 ⊢
  have R1:=hd_ h1
  have T1:=hd_ g1
  clear h1 g1
  unfold frV
  have q0:=ad_ HR.out 0
  have q1:=ad_ HR.out 1
  have q2:=ad_ HR.out 2
  simp only[List.getElem?_toArray,List.getElem?_cons_zero,List.getElem?_cons_succ] at q0 q1 q2
  have f0:=af_ HR.out 0
  have f1:=af_ HR.out 1
  have f2:=af_ HR.out 2
  replace R1:=hd_ (R1.out.stored3 HR.out ((zneg q.num)) a1 n1 c1 (.slice b1 m1 d1))
  replace T1:=hd_ (T1.out.stored3 HR.out ((zneg q.num)) a1 n1 c1 (.slice b1 m1 d1))
  replace HB:=hd_ (aw_ HB.out (show w.heap.size≤w.heap.size by omega) (.bool (zneg q.num)) (.slice a1 n1 c1) (.slice b1 m1 d1))
  replace HR:=hd_ (bm_ HR.out (.bool (zneg q.num)) (.slice a1 n1 c1) (.slice b1 m1 d1))
  go_wp2
  refine bodyPost_ret (results_cell_row Tryz.results145 _ _ (w.heap.size) 44 #[.bool (zneg q.num),.slice a1 n1 c1,.slice b1 m1 d1] (0,0) _ rfl HR.out Tryz.underlying44 rfl (by kernel_rfl)) rfl ?_
  exact⟨_,a1,n1,c1,_,b1,m1,d1,_,rfl,R1.out,T1.out,(fu_ q).trans HTQ.out.symm,.inr (de_ q a1 n1 c1 b1 m1 d1),fun _=>de_ q a1 n1 c1 b1 m1 d1,HB.out⟩
 ·by_cases h1:n=1
  ·subst h1
   obtain⟨bb,off,rfl,e0,e1,e2,hok⟩:=HK.out.at (j:=0) (by omega)
   have hm0:L.getD 0 Fx.zero∈L:=d8_ (by rw[HLl.out];omega)
   have hs0:rsum (fqs L)=(L.getD 0 Fx.zero).q:=by
    match L,HLl.out with
    | [x],_=>
      show x.q+0=x.q
      grind
   have HN1:Hid (L.length=1):=hd_ HLl.out
   have hok9:=HKw.out.oks _ hm0
   generalize L.getD 0 Fx.zero=x at *
   obtain⟨sx,ax,nx,cx,lax,bx,mx,dx,lbx⟩:=x
   simp only[Nat.zero_mul,Nat.add_zero] at e0 e1 e2
   replace HR:=hd_ (aj_ w #[.bool sx,.slice ax nx cx,.slice bx mx dx] 44)
   replace HB:=hd_ (aa_ w (.cells #[.bool sx,.slice ax nx cx,.slice bx mx dx] 44))
   have R1:=hd_ (hok9.1.later HB.out)
   have T1:=hd_ (hok9.2.later HB.out)
   have HM:=hd_ hm0
   have HS:=hd_ hs0
   simp only at R1 T1
   clear ih hok hok9 hm0 hs0 HK HKw
   go_enter Tryz.func145,Tryz.ntmps145
   go_wp2
   refine bodyPost_ret (results_cell_row Tryz.results145 _ _ (w.heap.size) 44 #[.bool sx,.slice ax nx cx,.slice bx mx dx] (0,0) _ rfl HR.out Tryz.underlying44 rfl (by kernel_rfl)) rfl ?_
   exact⟨_,ax,nx,cx,lax,bx,mx,dx,lbx,rfl,R1.out,T1.out,HS.out.symm,.inl HM.out,fun h=>absurd HN1.out h,HB.out⟩
  ·obtain⟨hh,hhh⟩:∃hh,hh=n / 2:=⟨_,rfl⟩
   obtain⟨m,rfl⟩:∃m,n=hh+m:=⟨n - hh,by omega⟩
   have hhp:0 < hh:=by omega
   have hmp:0 < m:=by omega
   have hq:((hh:Int)+(m:Int)) / 2=(hh:Int):=by omega
   obtain⟨b,off,rfl,-,-,-,-⟩:=HK.out.at (j:=0) (by omega)
   have HA:=hd_ (HKw.out.take (k:=hh) (by omega))
   have HC:=hd_ HKw.out.drop
   have HtA:Hid (thin N (L.take hh)):=hd_ (fun x hx=>HTh.out x (List.mem_of_mem_take hx))
   have HtC:Hid (thin N (L.drop hh)):=hd_ (fun x hx=>HTh.out x (List.mem_of_mem_drop hx))
   have hbA:1+(hh - 1) * (N+3)≤2097152000:=Nat.le_trans (Nat.add_le_add_left (Nat.mul_le_mul_right _ (by omega)) 1) HBd.out
   have hbC:1+(m - 1) * (N+3)≤2097152000:=Nat.le_trans (Nat.add_le_add_left (Nat.mul_le_mul_right _ (by omega)) 1) HBd.out
   have HsA:Hid (qlen (rsum (fqs (L.take hh)))≤2097152000):=hd_ (by
    have h9:=kc_ (HtA.out.qs HA.out.oks)
    rw[ap_,HA.out.len] at h9
    exact Nat.le_trans h9 (Nat.le_trans (Nat.add_le_add_left (Nat.mul_le_mul_right _ (by omega)) 1) HBd.out))
   have HsC:Hid (qlen (rsum (fqs (L.drop hh)))≤2097152000):=hd_ (by
    have h9:=kc_ (HtC.out.qs HC.out.oks)
    rw[ap_,HC.out.len] at h9
    exact Nat.le_trans h9 (Nat.le_trans (Nat.add_le_add_left (Nat.mul_le_mul_right _ (by omega)) 1) HBd.out))
   obtain⟨tq,htq⟩:∃tq,rsum (fqs L)=tq:=⟨_,rfl⟩
   have HS:Hid (rsum (fqs (L.take hh))+rsum (fqs (L.drop hh))=tq):=hd_ (by
    rw[←htq,←kj_]
    unfold fqs
    rw[←List.map_append,List.take_append_drop])
   have HTQ:=hd_ htq
   have ihA:=hd_ (fun wz (hz:Below w.heap.size w wz)=>ih hh (by omega) (some ⟨b,off,none⟩) cap (L.take hh) N wz (HA.out.later hz) HtA.out hbA hN)
   have ihC:=hd_ (fun wz (hz:Below w.heap.size w wz)=>ih m (by omega) (some ⟨b,off+hh * 3,none⟩) (cap - hh) (L.drop hh) N wz (HC.out.later hz) HtC.out hbC hN)
   have hi2:(hh:Int)≤(cap:Int):=by omega
   have hi3:(hh:Int)≤(hh:Int)+(m:Int):=by omega
   have hi4:(2:Int)≤(hh:Int)+(m:Int):=by omega
   have hne:¬cap=hh:=by omega
   have HN1:Hid (L.length≠1):=hd_ (by rw[HLl.out];omega)
   clear ih hhh HK HKw hbA hbC htq HA HC
   go_enter Tryz.func145,Tryz.ntmps145
   go_wp2
   have HB0:Hid (Below w.heap.size w (w.alloc (.cells #[.bool false,.slice none 0 0,.slice none 0 0] 44)).drew):=hd_ (ab_ HB.out (Below.refl _ _).drew)
   have HR0:Hid ((w.alloc (.cells #[.bool false,.slice none 0 0,.slice none 0 0] 44)).drew.heap[w.heap.size]? = some (.cells #[.bool false,.slice none 0 0,.slice none 0 0] 44 (0,0))):=hd_ HR.out
   clear HB HR
   first | go_region_with (first
    | (go_at_call 145;(first
      | ((with_reducible refine (ihA.out _ ?hz).mono ?_);(case hz=>exact HB0.out);rintro e w1 ⟨s1,a1,n1,c1,la1,b1,m1,d1,lb1,rfl,h1,g1,q1,o1,-,bw1⟩;have HB1:=hd_ (ab_ HB0.out bw1);have HR1:=hd_ (ae_ HR0.out bw1);have R1:=hd_ h1;have T1:=hd_ g1;have Q1:=hd_ q1;have O1:=hd_ o1;clear h1 g1 q1 o1 bw1 HB0 HR0)
      | ((refine (ihC.out _ ?hz).mono ?_);(case hz=>exact HB1.out);rintro e w2 ⟨s2,a2,n2,c2,la2,b2,m2,d2,lb2,rfl,h2,g2,q2,o2,-,bw2⟩;have HB2:=hd_ (ab_ HB1.out bw2);have HR2:=hd_ (ae_ HR1.out bw2);replace R1:=R1.l_ bw2;replace T1:=T1.l_ bw2;have R2:=hd_ h2;have T2:=hd_ g2;have Q2:=hd_ q2;have O2:=hd_ o2;clear h2 g2 q2 o2 bw2 HB1 HR1;obtain⟨lx1,ly1⟩:=k4_ (x:=⟨s1,a1,n1,c1,la1,b1,m1,d1,lb1⟩) ⟨R1.out,T1.out⟩ Q1.out O1.out HtA.out HsA.out hN;obtain⟨lx2,ly2⟩:=k4_ (x:=⟨s2,a2,n2,c2,la2,b2,m2,d2,lb2⟩) ⟨R2.out,T2.out⟩ Q2.out O2.out HtC.out HsC.out hN;simp only at lx1 ly1 lx2 ly2)))
    | (go_at_call 41;(refine (fracSaid.add (frV s1 a1 n1 c1 b1 m1 d1) (frV s2 a2 n2 c2 b2 m2 d2) (qval s1 (val la1) (val lb1)) (qval s2 (val la2) (val lb2)) _ (Fr.of R1.out T1.out lx1 ly1 rfl) (Fr.of R2.out T2.out lx2 ly2 rfl)).mono ?_);rintro e w3 ⟨a3,n3,c3,b3,m3,d3,rfl,h3,g3,bw3⟩;rw[Q1.out,Q2.out,HS.out] at h3 g3 ⊢;have HB:=hd_ (ab_ HB2.out bw3);have HR:=hd_ (ae_ HR2.out bw3);have R3:=hd_ h3;have T3:=hd_ g3;clear bw3 h3 g3 HB2 HR2 R1 T1 R2 T2;unfold frV;have q0:=ad_ HR.out 0;have q1:=ad_ HR.out 1;have q2:=ad_ HR.out 2;simp only[List.getElem?_toArray,List.getElem?_cons_zero,List.getElem?_cons_succ] at q0 q1 q2;have f0:=af_ HR.out 0;have f1:=af_ HR.out 1;have f2:=af_ HR.out 2;replace R3:=hd_ (R3.out.stored3 HR.out ((zneg tq.num)) a3 n3 c3 (.slice b3 m3 d3));replace T3:=hd_ (T3.out.stored3 HR.out ((zneg tq.num)) a3 n3 c3 (.slice b3 m3 d3));replace HB:=hd_ (aw_ HB.out (show w.heap.size≤w.heap.size by omega) (.bool (zneg tq.num)) (.slice a3 n3 c3) (.slice b3 m3 d3));replace HR:=hd_ (bm_ HR.out (.bool (zneg tq.num)) (.slice a3 n3 c3) (.slice b3 m3 d3)))) | fail
   all_goals (
    go_wp2
    refine bodyPost_ret (results_cell_row Tryz.results145 _ _ (w.heap.size) 44 #[.bool (zneg tq.num),.slice a3 n3 c3,.slice b3 m3 d3] (0,0) _ rfl HR.out Tryz.underlying44 rfl (by kernel_rfl)) rfl ?_
    exact⟨_,a3,n3,c3,_,b3,m3,d3,_,rfl,R3.out,T3.out,(fu_ tq).trans HTQ.out.symm,.inr (de_ tq a3 n3 c3 b3 m3 d3),fun _=>de_ tq a3 n3 c3 b3 m3 d3,HB.out⟩)
theorem ij_:∀l m:LR_,rdot l m=rsum (List.zipWith (fun x y=>x * y) l m)
 | [],[] => rfl
 | [],_ :: _=>rfl
 | _ :: _,[] => rfl
 | x :: l,y :: m=>by
   show x * y+rdot l m=x * y+rsum (List.zipWith (fun x y=>x * y) l m)
   rw[ij_ l m]
def fv_ (l m:LR_):List Rat:=List.zipWith (fun x y=>x * y) l m
theorem mt_{l m:List Rat}(h:l.length=m.length):(fv_ l m).length=l.length:=by
 unfold fv_
 rw[List.length_zipWith,←h,Nat.min_self]
theorem pb_{l m:List Rat}{k:Nat}(h:k < l.length)(h':k < m.length):(fv_ l m).getD k 0=l.getD k 0 * m.getD k 0:=by
 unfold fv_
 rw[List.getD_eq_getElem?_getD,List.getElem?_zipWith,List.getElem?_eq_getElem h,List.getElem?_eq_getElem h',List.getD_eq_getElem?_getD,List.getD_eq_getElem?_getD,List.getElem?_eq_getElem h,List.getElem?_eq_getElem h'];rfl
theorem oc_{N K:Nat}{l m:List Rat}(hl:∀q∈l,qlen q≤N)(hm:∀q∈m,qlen q≤K):∀q∈fv_ l m,qlen q≤N+K+1:=fun q hq=>by
 obtain⟨i,hi,rfl⟩:=List.getElem_of_mem hq
 unfold fv_ at hi
 rw[List.length_zipWith] at hi
 have h1:=hl _ (List.getElem_mem (show i < l.length by omega))
 have h2:=hm _ (List.getElem_mem (show i < m.length by omega))
 have h3:=ch_ (l[i]'(by omega)) (m[i]'(by omega))
 unfold fv_
 rw[List.getElem_zipWith]
 omega
theorem LstT.right{L:List Fx}{w w':World}{e:Ending}(h:LstT L w e w')(hr:∀x∈L,x.right):LstQ (rsum (fqs L)) w e w':=by
 obtain⟨s,a,n,c,la,b,m,d,lb,rfl,h1,h2,h3,h4,-,h6⟩:=h
 have h5:(⟨s,a,n,c,la,b,m,d,lb⟩:Fx).right:=h4.elim (hr _) id
 obtain⟨r1,r2,r3⟩:=h5
 have h3':(⟨s,a,n,c,la,b,m,d,lb⟩:Fx).q=rsum (fqs L):=h3
 rw[h3'] at r1 r2 r3
 simp only at r1 r2 r3
 rw[r2] at h1
 rw[r3] at h2
 rw[r1]
 exact⟨a,n,c,b,m,d,rfl,h1,h2,h6⟩
theorem LstT.many{L:List Fx}{w w':World}{e:Ending}(h:LstT L w e w')(hr:L.length≠1):LstQ (rsum (fqs L)) w e w':=by
 obtain⟨s,a,n,c,la,b,m,d,lb,rfl,h1,h2,h3,-,h4,h6⟩:=h
 obtain⟨r1,r2,r3⟩:=h4 hr
 have h3':(⟨s,a,n,c,la,b,m,d,lb⟩:Fx).q=rsum (fqs L):=h3
 rw[h3'] at r1 r2 r3
 simp only at r1 r2 r3
 rw[r2] at h1
 rw[r3] at h2
 rw[r1]
 exact⟨a,n,c,b,m,d,rfl,h1,h2,h6⟩
theorem total_rw{a:Option Addr}{n cap:Nat}{qs:List Rat}{N:Nat}(w:World)(h:Rw w a n cap qs)(hq:∀q∈qs,qlen q≤N)(hb:1+(n - 1) * (N+3)≤2097152000)(hN:N≤2097152000):Calls Tryz.prog 145 #[.slice a n cap] w (LstQ (rsum qs) w):=by
 obtain⟨L,h1,h2,h3⟩:=h
 have ht:thin N L:=fun x hx=>by
  obtain⟨h4,h5,h6⟩:=h3 x hx
  exact nc_ (h1.ok hx) ⟨h4,h5,h6⟩ (hq _ (h2▸List.mem_map.2 ⟨x,hx,rfl⟩))
 refine (m5_ n a cap L N w h1 ht hb hN).mono fun e w' h9=>?_
 have h8:=h9.right h3
 unfold fqs at h8
 rwa [h2] at h8
theorem op_(a0:OA_)(n0 c0:Nat)(L0:List Fx)(a1:OA_)(n1 c1:Nat)(L1:List Fx)(N K:Nat)(w:World)(h0:Fxs w a0 n0 c0 L0)(h1:Fxs w a1 n1 c1 L1)(hn:n0≤300)(ht0:thin N L0)(ht1:thin K L1)(hs:Hid (n0=n1))(hb9:1+n0 * (N+K+6)≤2097152000)(hN9:N+K+3≤2097152000):Calls Tryz.prog 120 #[.slice a0 n0 c0,.slice a1 n1 c1] w (di_ (rdot (fqs L0) (fqs L1)) (.bool true) w):=by
 obtain⟨K9,hK9⟩:∃K9,N+1+(K+1)+1=K9:=⟨_,rfl⟩
 have HK9:Hid (K9+3=N+K+6):=hd_ (by omega)
 have hK8:K9≤2097152000:=by omega
 have HQ9:Hid (∀q∈fv_ (fqs L0) (fqs L1),qlen q≤K9):=hd_ (by rw[←hK9];exact oc_ (ht0.qs h0.oks) (ht1.qs h1.oks))
 clear hK9
 have HK0:=hd_ h0
 have HLl0:=hd_ h0.len
 have hbd0:=h0.bound
 have HTh0:=hd_ ht0
 clear h0 ht0
 have HK1:=hd_ h1
 have HLl1:=hd_ h1.len
 have hbd1:=h1.bound
 have HTh1:=hd_ ht1
 clear h1 ht1
 obtain rfl:=hs.out
 clear hs
 obtain⟨q,hq9⟩:∃q,rdot (fqs L0) (fqs L1)=q:=⟨_,rfl⟩
 rw[hq9]
 have HSM0:Hid (rsum (fv_ (fqs L0) (fqs L1))=q):=hd_ (by rw[←hq9,ij_];rfl)
 clear hq9
 have HTL:Hid ((fv_ (fqs L0) (fqs L1)).length=n0):=hd_ (by rw[mt_ (by rw[ap_,ap_,HLl0.out,HLl1.out]),ap_,HLl0.out])
 obtain⟨T,hTe⟩:∃T,fv_ (fqs L0) (fqs L1)=T:=⟨_,rfl⟩
 have ET:=hd_ hTe
 have HQL:Hid (∀q∈T,qlen q≤K9):=hd_ (hTe▸HQ9.out)
 have HSM:Hid (rsum T=q):=hd_ (hTe▸HSM0.out)
 clear HQ9 HSM0
 rw[hTe] at HTL
 try rw[hTe]
 clear hTe
 obtain⟨i0,hi,hz0,hz1,hz2⟩:=info_parts du_
 go_enter Tryz.func120,Tryz.ntmps120
 try unfold frV
 go_wp2_with (at_make;refine ca_ _ rfl _ _ 33 rfl (w.heap.size+1) 44 i0 Tryz.underlying33 hi hz0 hz1 hz2 _ _ _ _ n0 rfl rfl (by omega) (by omega) (by omega) (by simp) ?_;intro wm hmade hgm hszm)
 have HO0:=hd_ (Half.start hmade)
 have HB0:Hid (Below w.heap.size w wm):=hd_ (ab_ (aa_ _ _) ((Below.refl _ _).grown hgm (Nat.le_refl _) (fun k hk=>by cases hk)))
 have X00:Hid (wm.heap[w.heap.size]? = some (.cells #[.bool false,.slice none 0 0,.slice none 0 0] 44 (0,0))):=hd_ (ae_ (aj_ _ _ _) ((Below.refl _ _).grown hgm (Nat.le_refl _) (fun k hk=>by cases hk)))
 clear hmade hgm
 try simp only[World.size_alloc] at hszm HO0
 go_loopw [19] (fun iv wr=>∃k r:Nat,k+r=n0∧iv=.int .i64 (k:Int)∧Hid (Half wr (w.heap.size+1) 44 (.slice (some ⟨w.heap.size+1,0,none⟩) n0 n0) (T.take k) r)∧Hid (Below w.heap.size w wr)∧w.heap.size+1 < wr.heap.size∧Hid (wr.heap[w.heap.size]? = some (.cells #[.bool false,.slice none 0 0,.slice none 0 0] 44 (0,0)))) (fun iv _=>n0 - (intOf iv).toNat)
 case atStart=>exact⟨0,n0,by omega,rfl,HO0,HB0,by omega,X00⟩
 case round=>
  clear HO0 HB0 X00
  obtain⟨k,r,hk,rfl,HO,HB,hsz,X0⟩:=hrel
  by_cases hlt:k < n0
  ·have hkT:k < T.length:=by rw[HTL.out];exact hlt
   obtain⟨r,rfl⟩:∃r',r=r'+1:=⟨r - 1,by omega⟩
   have HT:Hid (T.take (k+1)=T.take k ++ [T.getD k 0]):=hd_ (nj_ hkT)
   have HTv:Hid (T.getD k 0=(L0.getD k Fx.zero).q * (L1.getD k Fx.zero).q):=hd_ (by rw[←ET.out];rw[pb_ (by rw[ap_,HLl0.out];exact hlt) (by rw[ap_,HLl1.out];exact hlt),cu_ (by rw[HLl0.out];exact hlt),cu_ (by rw[HLl1.out];exact hlt)])
   obtain⟨bb0,off0,rfl,e00,e10,e20,hok0⟩:=HK0.out.at hlt
   have hth0:=HTh0.out _ (d8_ (L:=L0) (k:=k) (by rw[HLl0.out];exact hlt))
   generalize L0.getD k Fx.zero=xk0 at *
   obtain⟨sk0,ak0,nk0,ck0,lak0,bk0,mk0,dk0,lbk0⟩:=xk0
   obtain⟨hA0,hB0⟩:=hok0
   simp only at e00 e10 e20 hA0 hB0 hth0
   obtain⟨hth0,htj0⟩:=hth0
   have HE0:Hid (w.cell? ⟨bb0,off0+k * 3,none⟩=some (.bool sk0)∧w.cell? ⟨bb0,off0+k * 3+1,none⟩=some (.slice ak0 nk0 ck0)∧w.cell? ⟨bb0,off0+k * 3+2,none⟩=some (.slice bk0 mk0 dk0)):=hd_ ⟨e00,e10,e20⟩
   have AK0:=hd_ hA0
   have BK0:=hd_ hB0
   clear hA0 hB0 e00 e10 e20
   obtain⟨bb1,off1,rfl,e01,e11,e21,hok1⟩:=HK1.out.at hlt
   have hth1:=HTh1.out _ (d8_ (L:=L1) (k:=k) (by rw[HLl1.out];exact hlt))
   generalize L1.getD k Fx.zero=xk1 at *
   obtain⟨sk1,ak1,nk1,ck1,lak1,bk1,mk1,dk1,lbk1⟩:=xk1
   obtain⟨hA1,hB1⟩:=hok1
   simp only at e01 e11 e21 hA1 hB1 hth1
   obtain⟨hth1,htj1⟩:=hth1
   have HE1:Hid (w.cell? ⟨bb1,off1+k * 3,none⟩=some (.bool sk1)∧w.cell? ⟨bb1,off1+k * 3+1,none⟩=some (.slice ak1 nk1 ck1)∧w.cell? ⟨bb1,off1+k * 3+2,none⟩=some (.slice bk1 mk1 dk1)):=hd_ ⟨e01,e11,e21⟩
   have AK1:=hd_ hA1
   have BK1:=hd_ hB1
   clear hA1 hB1 e01 e11 e21
   generalize T.getD k 0=tk at *
   replace HTv:Hid (tk=qval sk0 (val lak0) (val lbk0) * qval sk1 (val lak1) (val lbk1)):=HTv
   have hki:(k:Int) < (n0:Int):=by omega
   have hk0:(0:Int)≤(k:Int):=by omega
   obtain⟨e00,e10,e20⟩:=ar_ HE0.out HB.out
   obtain⟨e01,e11,e21⟩:=ar_ HE1.out HB.out
   obtain⟨x0,x1,x2⟩:=as_ X0.out
   go_wp2
   have b0:Below wr.heap.size wr wr.drew:=(Below.refl _ _).drew
   replace HB:=bt_ HB b0
   replace HO:=HO.l_ b0
   replace X0:=bl_ X0 b0
   replace hsz:=Nat.lt_of_lt_of_le hsz b0.size
   clear e00 e10 e20 e01 e11 e21 x0 x1 x2 b0
   obtain⟨e00,e10,e20⟩:=ar_ HE0.out HB.out
   obtain⟨e01,e11,e21⟩:=ar_ HE1.out HB.out
   obtain⟨x0,x1,x2⟩:=as_ X0.out
   first | go_region_with (first
    | (go_at_call 43;refine (fracSaid.mul _ _ (qval sk0 (val lak0) (val lbk0)) (qval sk1 (val lak1) (val lbk1)) _ (Fr.of (AK0.out.later HB.out) (BK0.out.later HB.out) (by omega) (by omega) rfl) (Fr.of (AK1.out.later HB.out) (BK1.out.later HB.out) (by omega) (by omega) rfl)).mono ?_;rintro e w4 ⟨a4,n4,c4,b4,m4,d4,rfl,h4,g4,bw⟩;rw[←HTv.out] at h4 g4 ⊢;clear e00 e10 e20 e01 e11 e21 x0 x1 x2;replace HB:=bt_ HB bw;replace HO:=HO.l_ bw;replace X0:=bl_ X0 bw;have hsz4:w.heap.size+1 < w4.heap.size:=Nat.lt_of_lt_of_le hsz bw.size;have HA4:=hd_ h4;have HB4:=hd_ g4;clear bw hsz h4 g4;unfold frV;obtain⟨⟨p0,p1,p2⟩,f0,f1,f2⟩:=HO.out.cell (k:=k) (by rw[dq_ (Nat.le_of_lt hkT)]))) | fail
   all_goals (
    obtain⟨hst,hgr⟩:=HO.out.stored (k:=k) (by rw[dq_ (Nat.le_of_lt hkT)]) tk a4 n4 c4 b4 m4 d4 HA4.out HB4.out
    rw[←HT.out] at hst
    have HS:=hd_ hst
    have HB5:=hd_ (HB.out.grown hgr HB.out.size (fun g' hg'=>by simp at hg';omega))
    have hsz5:=Nat.lt_of_lt_of_le hsz4 hgr.size
    have X5:=hd_ ((hgr.block w.heap.size (by omega) (fun e2=>by simp at e2)).trans X0.out)
    clear X0
    clear hst hgr HA4 HB4 HO HB HT HTv p0 p1 p2 f0 f1 f2
    go_wp2
    go_roundw
    case rel=>exact⟨k+1,r,by omega,by go_num,HS,HB5,hsz5,X5⟩
    case measure=>simp[intOf];omega)
  ·obtain rfl:k=n0:=by omega
   have HF:=hd_ (HO.out.whole HTL.out (by omega))
   obtain⟨a9,c9,e9,h9⟩:=HF.out.out
   rw[HTL.out] at e9 h9
   cases e9
   have HF9:=hd_ h9
   clear HO h9 HF
   have hqn:1+(k - 1) * (K9+3)≤2097152000:=by rw[HK9.out];exact Nat.le_trans (Nat.add_le_add_left (Nat.mul_le_mul_right _ (Nat.sub_le k 1)) 1) hb9
   go_wp2_with fail
   refine (total_rw _ HF9.out HQL.out hqn (by omega)).mono ?_
   rintro e w5 ⟨a1,n1,c1,b1,m1,d1,rfl,h1,g1,bw⟩
   replace HB:=bt_ HB bw
   have HR:=hd_ (ae_ X0.out bw)
   clear bw HF9 X0
   rw[HSM.out] at h1 g1 ⊢
   have R1:=hd_ h1
   have T1:=hd_ g1
   clear h1 g1
   unfold frV
   have q0:=ad_ HR.out 0
   have q1:=ad_ HR.out 1
   have q2:=ad_ HR.out 2
   simp only[List.getElem?_toArray,List.getElem?_cons_zero,List.getElem?_cons_succ] at q0 q1 q2
   have f0:=af_ HR.out 0
   have f1:=af_ HR.out 1
   have f2:=af_ HR.out 2
   replace R1:=hd_ (R1.out.stored3 HR.out ((zneg q.num)) a1 n1 c1 (.slice b1 m1 d1))
   replace T1:=hd_ (T1.out.stored3 HR.out ((zneg q.num)) a1 n1 c1 (.slice b1 m1 d1))
   replace HB:=hd_ (aw_ HB.out (show w.heap.size≤w.heap.size by omega) (.bool (zneg q.num)) (.slice a1 n1 c1) (.slice b1 m1 d1))
   replace HR:=hd_ (bm_ HR.out (.bool (zneg q.num)) (.slice a1 n1 c1) (.slice b1 m1 d1))
   go_wp2
   refine bodyPost_ret (bi_ Tryz.results120 _ _ (w.heap.size) 44 #[.bool (zneg q.num),.slice a1 n1 c1,.slice b1 m1 d1] (0,0) _ rfl HR.out Tryz.underlying44 rfl (by kernel_rfl)) rfl ?_
   exact⟨a1,n1,c1,b1,m1,d1,rfl,R1.out,T1.out,HB.out⟩
end Go.Proofs.YtocebjbjnfammaaGreat
