import Derived.Test.YtocebjbjnfammaaGreatLG14
import Derived.Test.YtocebjbjnfammaaGreatLG3
import Derived.Deep.RegionHeld3
import Derived.BigQuiet
import Derived.Test.YtocebjbjnfammaaGreatRows
import Derived.Lib.LaidTab
import Derived.Test.YtocebjbjnfammaaGreatLG13
import Derived.Test.YtocebjbjnfammaaGreatLG7
import Derived.Test.YtocebjbjnfammaaGreatLG6
import Derived.Test.YtocebjbjnfammaaGreatLG1
set_option maxRecDepth 4096
set_option maxHeartbeats 16000000
namespace Go.Proofs.YtocebjbjnfammaaGreat
open Go.RowKit
def LstR (z:Int) (v:Nat) (w:World) (e:Ending) (w':World):Prop:=
 ∃(a:OA_) (n cap:Nat) (b:OA_) (m cap':Nat),e=.returned (frV (zneg z) a n cap b m cap')∧Wd w' a n cap (dg z.natAbs)∧Wd w' b m cap' (dg v)∧Below w.heap.size w w'
theorem fg_(neg:Bool)(a:OA_)(n cap:Nat)(la:List Nat)(b:OA_)(m cap':Nat)(lb:List Nat)(w:World)(ha:Wd w a n cap la)(hb:Wd w b m cap' lb)(hn:n≤104857600000)(hm:m≤104857600000) :
 Calls Tryz.prog 44 #[frV neg a n cap b m cap'] w (bo_ (.int .i64 (sgn (qval neg (val la) (val lb)).num)) w):=by
 have HB:=hd_ (aa_ w (.cells #[.bool neg,.slice a n cap,.slice b m cap'] 44))
 have HA:=hd_ (ha.later HB.out)
 have HC:=hd_ (hb.later HB.out)
 have HX:=hd_ (ao_ w #[.bool neg,.slice a n cap,.slice b m cap'] 44)
 clear ha hb
 have HZ0:Hid (val lb=0→sgn (qval neg (val la) (val lb)).num=0):=hd_ (fun h=>by rw[eb_ neg (.inl h)];rfl)
 have HZ1:Hid (val lb≠0→sgn (qval neg (val la) (val lb)).num=sgn (zval neg (val la))):=hd_ (fun h=>fc_qsign h)
 generalize (qval neg (val la) (val lb)).num=y at *
 go_enter Tryz.func44,Tryz.ntmps44
 unfold frV
 obtain⟨vk0,vk1,vk2⟩:=av_ HX.out
 go_wp2_with fail
 refine (natSaid.zero b m cap' lb _ HC.out (by omega)).mono ?_
 rintro e wv1 ⟨rfl,b⟩
 clear vk0 vk1 vk2
 replace HB:=bt_ HB b
 replace HX:=bl_ HX b
 replace HA:=HA.l_ b
 replace HC:=HC.l_ b
 clear b
 by_cases h0:val lb=0
 ·have HS:=hd_ (HZ0.out h0)
  rw[decide_eq_true h0]
  clear h0 HZ0 HZ1
  go_wp2
  go_ret
  exact⟨by rw[HS.out];rfl,HB.out⟩
 ·have HS:=hd_ (HZ1.out h0)
  rw[decide_eq_false h0]
  clear h0 HZ0 HZ1
  obtain⟨k0,k1,k2⟩:=av_ HX.out
  go_wp2_with fail
  refine (hz_ neg a n cap la _ HA.out hn).mono ?_
  rintro e w2 ⟨rfl,b⟩
  go_wp2
  go_ret
  exact⟨by rw[HS.out];rfl,ab_ HB.out b⟩
theorem ns_(na:Bool)(a:OA_)(n cap:Nat)(la:List Nat)(b:OA_)(m cap':Nat)(lb:List Nat)(nb:Bool)(a':OA_)(n' c':Nat)(la':List Nat)(b':OA_)(m' d':Nat)(lb':List Nat)(w:World)(ha:Wd w a n cap la)(hb:Wd w b m cap' lb)(ha':Wd w a' n' c' la')(hb':Wd w b' m' d' lb')(hn:n≤104857600000)(hm:m≤104857600000)(hn':n'≤104857600000)(hm':m'≤104857600000) :
 Calls Tryz.prog 92 #[frV na a n cap b m cap',frV nb a' n' c' b' m' d'] w (LstR (zval na (val la) * zval nb (val la')) (val lb * val lb') w):=by
 have HB:=hd_ (ab_ (ab_ (aa_ w (.cells #[.bool na,.slice a n cap,.slice b m cap'] 44)) (aa_ _ (.cells #[.bool nb,.slice a' n' c',.slice b' m' d'] 44))) (aa_ _ (.cells #[.bool false,.slice none 0 0,.slice none 0 0] 44)))
 have HA:=hd_ (ha.later HB.out)
 have HC:=hd_ (hb.later HB.out)
 have HA':=hd_ (ha'.later HB.out)
 have HC':=hd_ (hb'.later HB.out)
 obtain⟨hx1,hx2,hx3⟩:=e9_ w #[.bool na,.slice a n cap,.slice b m cap'] #[.bool nb,.slice a' n' c',.slice b' m' d'] #[.bool false,.slice none 0 0,.slice none 0 0] 44 44 44
 have HX:=hd_ hx1
 have HY:=hd_ hx2
 have HR:=hd_ hx3
 have ta:=ha.trim_le
 have tb:=hb.trim_le
 have ta':=ha'.trim_le
 have tb':=hb'.trim_le
 clear ha hb ha' hb' hx1 hx2 hx3
 obtain⟨z,hz⟩:∃z,zval na (val la) * zval nb (val la')=z:=⟨_,rfl⟩
 rw[hz]
 have HZ:=hd_ hz
 clear hz
 go_enter Tryz.func92,Tryz.ntmps92
 unfold frV
 go_wp2
 generalize (((w.alloc (.cells #[.bool na,.slice a n cap,.slice b m cap'] 44)).alloc (.cells #[.bool nb,.slice a' n' c',.slice b' m' d'] 44)).alloc (.cells #[.bool false,.slice none 0 0,.slice none 0 0] 44))=W at *
 replace HB:=bt_ HB (dw_ W)
 replace HX:Hid (W.drew.heap[w.heap.size]? = _):=hd_ HX.out
 replace HY:Hid (W.drew.heap[w.heap.size+1]? = _):=hd_ HY.out
 replace HR:Hid (W.drew.heap[w.heap.size+1+1]? = some (.cells #[.bool false,.slice none 0 0,.slice none 0 0] 44 (0,0))):=hd_ HR.out
 replace HA:=HA.l_ (dw_ W)
 replace HC:=HC.l_ (dw_ W)
 replace HA':=HA'.l_ (dw_ W)
 replace HC':=HC'.l_ (dw_ W)
 have pSn:=a7_ HX.out HY.out
 go_region_held3 (fun w'=>w'.cell? ⟨w.heap.size,0,none⟩=some (.bool na)∧w'.cell? ⟨w.heap.size,1,none⟩=some (.slice a n cap)∧w'.cell? ⟨w.heap.size,2,none⟩=some (.slice b m cap')∧w'.cell? ⟨w.heap.size+1,0,none⟩=some (.bool nb)∧w'.cell? ⟨w.heap.size+1,1,none⟩=some (.slice a' n' c')∧w'.cell? ⟨w.heap.size+1,2,none⟩=some (.slice b' m' d')) (first | exact pSn | exact pSb _ _ _)
  (first
  | (go_at_call 132;(first
    | (refine (n6_ na a n cap la nb a' n' c' la' _ HA.out HA'.out (by omega) (by omega)).mono ?_;rintro e wp1 ⟨a1,n1,c1,rfl,h1,b⟩;replace HB:=bt_ HB b;replace HX:=bl_ HX b;replace HY:=bl_ HY b;replace HR:=bl_ HR b;replace HA:=HA.l_ b;replace HC:=HC.l_ b;replace HA':=HA'.l_ b;replace HC':=HC'.l_ b;rw[HZ.out] at h1 ⊢;have R1:=hd_ h1;clear h1;unfold whV;clear b;clear pSn;have pSn:=a7_ HX.out HY.out;have pM1:=True.intro)))
  | (go_at_call 90;(first
    | (have pm1:=pM1;refine (l4_ b m cap' lb b' m' d' lb' _ HC.out HC'.out (by omega) (by omega)).mono ?_;rintro e wp2 ⟨b1,m1,d1,rfl,g1,b⟩;replace HB:=bt_ HB b;replace HX:=bl_ HX b;replace HY:=bl_ HY b;replace HR:=bl_ HR b;replace HA:=HA.l_ b;replace HC:=HC.l_ b;replace HA':=HA'.l_ b;replace HC':=HC'.l_ b;replace R1:=R1.l_ b;have T1:=hd_ g1;clear g1;obtain⟨r0,r1,r2⟩:=av_ HR.out;have f0:=ah_ HR.out 0;have f1:=ah_ HR.out 1;have f2:=ah_ HR.out 2;have pSb:=fun u v q=>a7_ (bz_ (g:=w.heap.size+1+1) HX.out (by omega) u v q) (bz_ (g:=w.heap.size+1+1) HY.out (by omega) u v q);clear b;clear pSn;have pSn:=a7_ HX.out HY.out;clear pM1 pm1;have pM2:=True.intro))))
 have HG:=hd_ (bu_ HR.out (.bool (zneg z)) (.slice a1 n1 c1) (.slice b1 m1 d1))
 have HL:=hd_ (a3_ HB.out (show w.heap.size≤w.heap.size+1+1 by omega) (.bool (zneg z)) (.slice a1 n1 c1) (.slice b1 m1 d1))
 have HW1:=hd_ (R1.out.stored3 HR.out (zneg z) a1 n1 c1 (.slice b1 m1 d1))
 have HW2:=hd_ (T1.out.stored3 HR.out (zneg z) a1 n1 c1 (.slice b1 m1 d1))
 go_wp2
 refine bodyPost_ret (results_cell_row Tryz.results92 _ _ (w.heap.size+1+1) 44 #[.bool (zneg z),.slice a1 n1 c1,.slice b1 m1 d1] (0,0) _ rfl HG.out Tryz.underlying44 rfl (by kernel_rfl)) rfl ?_
 exact⟨a1,n1,c1,b1,m1,d1,rfl,HW1.out,HW2.out,HL.out⟩
theorem frac_new(neg:Bool)(a:OA_)(n cap:Nat)(la:List Nat)(b:OA_)(m cap':Nat)(lb:List Nat)(w:World)(ha:Wd w a n cap la)(hb:Wd w b m cap' lb)(hn:n≤41943040000)(hm:m≤41943040000) :
 Calls Tryz.prog 126 #[whV neg a n cap,.slice b m cap'] w (fc_ (qval neg (val la) (val lb)) (.bool (decide (val lb≠0))) w):=by
 have HB:=hd_ (ab_ (aa_ w (.cells #[.bool neg,.slice a n cap] 42)) (aa_ _ (.cells #[.bool false,.slice none 0 0,.slice none 0 0] 44)))
 have HA:=hd_ (ha.later HB.out)
 have HC:=hd_ (hb.later HB.out)
 obtain⟨hx1,hx2⟩:=d0_ w ((w.alloc (.cells #[.bool neg,.slice a n cap] 42)).alloc (.cells #[.bool false,.slice none 0 0,.slice none 0 0] 44)) #[.bool neg,.slice a n cap] #[.bool false,.slice none 0 0,.slice none 0 0] 42 44 (Below.refl _ _)
 have HX:=hd_ hx1
 have HR:=hd_ hx2
 have ta:=ha.trim_le
 clear hx1 hx2 ha hb
 obtain⟨q,hq⟩:∃q,qval neg (val la) (val lb)=q:=⟨_,rfl⟩
 rw[hq]
 have HQ:=hd_ hq
 clear hq
 go_enter Tryz.func126,Tryz.ntmps126
 unfold whV
 obtain⟨vk0,vk1,vk2,vk3,vk4⟩:=cd_ HX.out HR.out
 go_wp2_with fail
 refine (natSaid.zero b m cap' lb _ HC.out (by omega)).mono ?_
 rintro e wv1 ⟨rfl,b⟩
 clear vk0 vk1 vk2 vk3 vk4
 replace HB:=bt_ HB b
 replace HX:=bl_ HX b
 replace HR:=bl_ HR b
 replace HA:=HA.l_ b
 replace HC:=HC.l_ b
 clear b
 by_cases h0:val lb=0
 ·have HD:Hid (decide (val lb≠0)=false):=hd_ (by rw[decide_eq_false];exact fun h=>h h0)
  have HQ0:Hid (((0:Int):Rat)=q):=hd_ (by rw[←HQ.out,eb_ neg (.inl h0)];rfl)
  rw[decide_eq_true h0]
  clear h0 HQ
  clear HA HC
  obtain⟨uk0,uk1,uk2,uk3,uk4⟩:=cd_ HX.out HR.out
  go_wp2_with fail
  refine (eg_ 0 _ ev_).mono ?_
  rintro e wu1 ⟨a1,n1,c1,b1,m1,d1,rfl,h1,g1,b⟩
  clear uk0 uk1 uk2 uk3 uk4
  replace HB:=bt_ HB b
  replace HX:=bl_ HX b
  replace HR:=bl_ HR b
  clear b
  rw[HQ0.out] at h1 g1 ⊢
  have R1:=hd_ h1
  have T1:=hd_ g1
  clear h1 g1
  unfold frV
  have q0:=ad_ HR.out 0
  have q1:=ad_ HR.out 1
  have q2:=ad_ HR.out 2
  simp only[List.getElem?_toArray,List.getElem?_cons_zero,List.getElem?_cons_succ] at q0 q1 q2
  have f0:=ah_ HR.out 0
  have f1:=ah_ HR.out 1
  have f2:=ah_ HR.out 2
  replace HX:=hd_ (bz_ HX.out (show w.heap.size≠w.heap.size+1 by omega) (.bool (zneg q.num)) (.slice a1 n1 c1) (.slice b1 m1 d1))
  replace R1:=hd_ (R1.out.stored3 HR.out ((zneg q.num)) a1 n1 c1 (.slice b1 m1 d1))
  replace T1:=hd_ (T1.out.stored3 HR.out ((zneg q.num)) a1 n1 c1 (.slice b1 m1 d1))
  replace HB:=hd_ (a3_ HB.out (show w.heap.size≤w.heap.size+1 by omega) (.bool (zneg q.num)) (.slice a1 n1 c1) (.slice b1 m1 d1))
  replace HR:=hd_ (bu_ HR.out (.bool (zneg q.num)) (.slice a1 n1 c1) (.slice b1 m1 d1))
  go_wp2
  refine bodyPost_ret (bn_ Tryz.results126 _ _ (w.heap.size+1) 44 #[.bool (zneg q.num),.slice a1 n1 c1,.slice b1 m1 d1] (0,0) _ rfl HR.out Tryz.underlying44 rfl (by kernel_rfl)) rfl ?_
  exact⟨a1,n1,c1,b1,m1,d1,by rw[HD.out];rfl,R1.out,T1.out,HB.out⟩
 ·have HD:Hid (decide (val lb≠0)=true):=hd_ (decide_eq_true h0)
  have HZ:Hid (zval neg (val (dg (val la / Nat.gcd (val la) (val lb))))=q.num):=hd_ (by rw[a8_,←HQ.out];exact (e4_ neg h0).1.symm)
  have HE:Hid (val lb / Nat.gcd (val la) (val lb)=q.den):=hd_ (by rw[←HQ.out];exact (e4_ neg h0).2.symm)
  have ql:(dg (val la / Nat.gcd (val la) (val lb))).length≤n:=Nat.le_trans (ax_ (Nat.div_le_self _ _)) ta
  rw[decide_eq_false h0]
  clear h0 HQ
  obtain⟨uk0,uk1,uk2,uk3,uk4⟩:=cd_ HX.out HR.out
  go_wp2_with fail
  refine (hc_ a n cap la b m cap' lb _ HA.out HC.out hn hm).mono ?_
  rintro e wu1 ⟨a1,n1,c1,b2,m2,d2,rfl,h1,g2,b⟩
  clear uk0 uk1 uk2 uk3 uk4
  replace HB:=bt_ HB b
  replace HX:=bl_ HX b
  replace HR:=bl_ HR b
  clear HA
  clear HC
  clear b
  rw[HE.out] at g2
  have ln1:=h1.len
  have R1:=hd_ h1
  have T2:=hd_ g2
  clear h1 g2
  obtain⟨uk0,uk1,uk2,uk3,uk4⟩:=cd_ HX.out HR.out
  go_wp2_with fail
  refine (q2_ neg a1 n1 c1 _ _ R1.out (by omega)).mono ?_
  rintro e wu2 ⟨a2,n2,c2,rfl,h2,b⟩
  clear uk0 uk1 uk2 uk3 uk4
  replace HB:=bt_ HB b
  replace HX:=bl_ HX b
  replace HR:=bl_ HR b
  clear R1
  replace T2:=T2.l_ b
  clear b
  rw[HZ.out] at h2 ⊢
  have R2:=hd_ h2
  clear h2
  unfold whV
  have q0:=ad_ HR.out 0
  have q1:=ad_ HR.out 1
  have q2:=ad_ HR.out 2
  simp only[List.getElem?_toArray,List.getElem?_cons_zero,List.getElem?_cons_succ] at q0 q1 q2
  have f0:=ah_ HR.out 0
  have f1:=ah_ HR.out 1
  have f2:=ah_ HR.out 2
  replace HX:=hd_ (bz_ HX.out (show w.heap.size≠w.heap.size+1 by omega) (.bool (zneg q.num)) (.slice a2 n2 c2) (.slice b2 m2 d2))
  replace T2:=hd_ (T2.out.stored3 HR.out ((zneg q.num)) a2 n2 c2 (.slice b2 m2 d2))
  replace R2:=hd_ (R2.out.stored3 HR.out ((zneg q.num)) a2 n2 c2 (.slice b2 m2 d2))
  replace HB:=hd_ (a3_ HB.out (show w.heap.size≤w.heap.size+1 by omega) (.bool (zneg q.num)) (.slice a2 n2 c2) (.slice b2 m2 d2))
  replace HR:=hd_ (bu_ HR.out (.bool (zneg q.num)) (.slice a2 n2 c2) (.slice b2 m2 d2))
  go_wp2
  refine bodyPost_ret (bn_ Tryz.results126 _ _ (w.heap.size+1) 44 #[.bool (zneg q.num),.slice a2 n2 c2,.slice b2 m2 d2] (0,0) _ rfl HR.out Tryz.underlying44 rfl (by kernel_rfl)) rfl ?_
  exact⟨a2,n2,c2,b2,m2,d2,by rw[HD.out];rfl,R2.out,T2.out,HB.out⟩
theorem hj_(neg:Bool)(a:OA_)(n cap:Nat)(la:List Nat)(b:OA_)(m cap':Nat)(lb:List Nat)(w:World)(ha:Wd w a n cap la)(hb:Wd w b m cap' lb)(hn:n≤41943040000)(hm:m≤41943040000) :
 Calls Tryz.prog 86 #[frV neg a n cap b m cap'] w (LstQ (qval neg (val la) (val lb)) w):=by
 have HB:=hd_ (ab_ (aa_ w (.cells #[.bool neg,.slice a n cap,.slice b m cap'] 44)) (aa_ _ (.cells #[.bool false,.slice none 0 0,.slice none 0 0] 44)))
 have HA:=hd_ (ha.later HB.out)
 have HC:=hd_ (hb.later HB.out)
 obtain⟨hx1,hx2⟩:=d0_ w ((w.alloc (.cells #[.bool neg,.slice a n cap,.slice b m cap'] 44)).alloc (.cells #[.bool false,.slice none 0 0,.slice none 0 0] 44)) #[.bool neg,.slice a n cap,.slice b m cap'] #[.bool false,.slice none 0 0,.slice none 0 0] 44 44 (Below.refl _ _)
 have HX:=hd_ hx1
 have HR:=hd_ hx2
 clear hx1 hx2 ha hb
 obtain⟨q,hq⟩:∃q,qval neg (val la) (val lb)=q:=⟨_,rfl⟩
 rw[hq]
 have HQ:=hd_ hq
 clear hq
 go_enter Tryz.func86,Tryz.ntmps86
 unfold frV
 obtain⟨vk0,vk1,vk2,vk3,vk4,vk5⟩:=a7_ HX.out HR.out
 go_wp2_with fail
 refine (frac_new neg a n cap la b m cap' lb _ HA.out HC.out hn hm).mono ?_
 rintro e wv1 ⟨a1,n1,c1,b1,m1,d1,rfl,h1,g1,b⟩
 clear vk0 vk1 vk2 vk3 vk4 vk5
 replace HB:=bt_ HB b
 replace HX:=bl_ HX b
 replace HR:=bl_ HR b
 clear HA
 clear HC
 clear b
 rw[HQ.out] at h1 g1 ⊢
 have R1:=hd_ h1
 have T1:=hd_ g1
 clear h1 g1
 generalize decide (val lb≠0)=s at *
 unfold frV
 have HP:Hid ((World.alloc wv1 (.cells #[.bool (zneg q.num),.slice a1 n1 c1,.slice b1 m1 d1] 44)).heap[wv1.heap.size]? = some (.cells #[.bool (zneg q.num),.slice a1 n1 c1,.slice b1 m1 d1] 44 (0,0))):=hd_ (ao_ wv1 _ _)
 replace HB:=hd_ (ab_ HB.out (aa_ wv1 (.cells #[.bool (zneg q.num),.slice a1 n1 c1,.slice b1 m1 d1] 44)))
 replace HX:=hd_ (ag_ HX.out (aa_ wv1 (.cells #[.bool (zneg q.num),.slice a1 n1 c1,.slice b1 m1 d1] 44)))
 replace HR:=hd_ (ag_ HR.out (aa_ wv1 (.cells #[.bool (zneg q.num),.slice a1 n1 c1,.slice b1 m1 d1] 44)))
 replace R1:=hd_ (R1.out.later (aa_ wv1 (.cells #[.bool (zneg q.num),.slice a1 n1 c1,.slice b1 m1 d1] 44)))
 replace T1:=hd_ (T1.out.later (aa_ wv1 (.cells #[.bool (zneg q.num),.slice a1 n1 c1,.slice b1 m1 d1] 44)))
 obtain⟨vk0,vk1,vk2,vk3,vk4,vk5,vk6,vk7,vk8⟩:=b9_ HX.out HR.out HP.out
 have q0:=ad_ HR.out 0
 have q1:=ad_ HR.out 1
 have q2:=ad_ HR.out 2
 simp only[List.getElem?_toArray,List.getElem?_cons_zero,List.getElem?_cons_succ] at q0 q1 q2
 have f0:=ah_ HR.out 0
 have f1:=ah_ HR.out 1
 have f2:=ah_ HR.out 2
 replace R1:=hd_ (R1.out.stored3 HR.out ((zneg q.num)) a1 n1 c1 (.slice b1 m1 d1))
 replace T1:=hd_ (T1.out.stored3 HR.out ((zneg q.num)) a1 n1 c1 (.slice b1 m1 d1))
 replace HB:=hd_ (a3_ HB.out (show w.heap.size≤w.heap.size+1 by omega) (.bool (zneg q.num)) (.slice a1 n1 c1) (.slice b1 m1 d1))
 replace HR:=hd_ (bu_ HR.out (.bool (zneg q.num)) (.slice a1 n1 c1) (.slice b1 m1 d1))
 go_wp2
 refine bodyPost_ret (results_cell_row Tryz.results86 _ _ (w.heap.size+1) 44 #[.bool (zneg q.num),.slice a1 n1 c1,.slice b1 m1 d1] (0,0) _ rfl HR.out Tryz.underlying44 rfl (by kernel_rfl)) rfl ?_
 exact⟨a1,n1,c1,b1,m1,d1,rfl,R1.out,T1.out,HB.out⟩
theorem qs_(na:Bool)(a:OA_)(n cap:Nat)(la:List Nat)(b:OA_)(m cap':Nat)(lb:List Nat)(nb:Bool)(a':OA_)(n' c':Nat)(la':List Nat)(b':OA_)(m' d':Nat)(lb':List Nat)(w:World)(ha:Wd w a n cap la)(hb:Wd w b m cap' lb)(ha':Wd w a' n' c' la')(hb':Wd w b' m' d' lb')(hn:n≤15728640000)(hm:m≤15728640000)(hn':n'≤15728640000)(hm':m'≤15728640000) :
 Calls Tryz.prog 43 #[frV na a n cap b m cap',frV nb a' n' c' b' m' d'] w (LstQ (qval na (val la) (val lb) * qval nb (val la') (val lb')) w):=by
 have HB:=hd_ (ab_ (ab_ (aa_ w (.cells #[.bool na,.slice a n cap,.slice b m cap'] 44)) (aa_ _ (.cells #[.bool nb,.slice a' n' c',.slice b' m' d'] 44))) (aa_ _ (.cells #[.bool false,.slice none 0 0,.slice none 0 0] 44)))
 have HA:=hd_ (ha.later HB.out)
 have HC:=hd_ (hb.later HB.out)
 have HA':=hd_ (ha'.later HB.out)
 have HC':=hd_ (hb'.later HB.out)
 obtain⟨hx1,hx2,hx3⟩:=e9_ w #[.bool na,.slice a n cap,.slice b m cap'] #[.bool nb,.slice a' n' c',.slice b' m' d'] #[.bool false,.slice none 0 0,.slice none 0 0] 44 44 44
 have HX:=hd_ hx1
 have HY:=hd_ hx2
 have HR:=hd_ hx3
 have ta:=ha.trim_le
 have tb:=hb.trim_le
 have ta':=ha'.trim_le
 have tb':=hb'.trim_le
 clear ha hb ha' hb' hx1 hx2 hx3
 obtain⟨q,hq⟩:∃q,qval na (val la) (val lb) * qval nb (val la') (val lb')=q:=⟨_,rfl⟩
 rw[hq]
 have HQ:=hd_ hq
 clear hq
 have zl1:=g7_ (zval na (val la)) (zval nb (val la'))
 have zl2:=b4_ (val lb) (val lb')
 rw[d8_,d8_] at zl1
 have HZ:Hid (qval (zneg (zval na (val la) * zval nb (val la'))) (val (dg (zval na (val la) * zval nb (val la')).natAbs)) (val (dg (val lb * val lb')))=q):=hd_ (by rw[a8_,a8_,lh_,pe_,HQ.out])
 go_enter Tryz.func43,Tryz.ntmps43
 unfold frV
 obtain⟨vk0,vk1,vk2,vk3,vk4,vk5,vk6,vk7,vk8⟩:=b9_ HX.out HY.out HR.out
 go_wp2_with fail
 refine (ns_ na a n cap la b m cap' lb nb a' n' c' la' b' m' d' lb' _ HA.out HC.out HA'.out HC'.out (by omega) (by omega) (by omega) (by omega)).mono ?_
 rintro e wv1 ⟨a1,n1,c1,b1,m1,d1,rfl,h1,g1,b⟩
 clear vk0 vk1 vk2 vk3 vk4 vk5 vk6 vk7 vk8
 replace HB:=bt_ HB b
 replace HX:=bl_ HX b
 replace HY:=bl_ HY b
 replace HR:=bl_ HR b
 clear HA
 clear HC
 clear HA'
 clear HC'
 clear b
 have ln1:=h1.len
 have lm1:=g1.len
 have R1:=hd_ h1
 have T1:=hd_ g1
 clear h1 g1
 unfold frV
 obtain⟨vk0,vk1,vk2,vk3,vk4,vk5,vk6,vk7,vk8⟩:=b9_ HX.out HY.out HR.out
 go_wp2_with fail
 refine (hj_ _ a1 n1 c1 _ b1 m1 d1 _ _ R1.out T1.out (by omega) (by omega)).mono ?_
 rintro e wv2 ⟨a2,n2,c2,b2,m2,d2,rfl,h2,g2,b⟩
 clear vk0 vk1 vk2 vk3 vk4 vk5 vk6 vk7 vk8
 replace HB:=bt_ HB b
 replace HX:=bl_ HX b
 replace HY:=bl_ HY b
 replace HR:=bl_ HR b
 clear R1
 clear T1
 clear b
 rw[HZ.out] at h2 g2 ⊢
 have R2:=hd_ h2
 have T2:=hd_ g2
 clear h2 g2
 unfold frV
 have q0:=ad_ HR.out 0
 have q1:=ad_ HR.out 1
 have q2:=ad_ HR.out 2
 simp only[List.getElem?_toArray,List.getElem?_cons_zero,List.getElem?_cons_succ] at q0 q1 q2
 have f0:=ah_ HR.out 0
 have f1:=ah_ HR.out 1
 have f2:=ah_ HR.out 2
 replace HX:=hd_ (bz_ HX.out (show w.heap.size≠w.heap.size+1+1 by omega) (.bool (zneg q.num)) (.slice a2 n2 c2) (.slice b2 m2 d2))
 replace HY:=hd_ (bz_ HY.out (show w.heap.size+1≠w.heap.size+1+1 by omega) (.bool (zneg q.num)) (.slice a2 n2 c2) (.slice b2 m2 d2))
 replace R2:=hd_ (R2.out.stored3 HR.out ((zneg q.num)) a2 n2 c2 (.slice b2 m2 d2))
 replace T2:=hd_ (T2.out.stored3 HR.out ((zneg q.num)) a2 n2 c2 (.slice b2 m2 d2))
 replace HB:=hd_ (a3_ HB.out (show w.heap.size≤w.heap.size+1+1 by omega) (.bool (zneg q.num)) (.slice a2 n2 c2) (.slice b2 m2 d2))
 replace HR:=hd_ (bu_ HR.out (.bool (zneg q.num)) (.slice a2 n2 c2) (.slice b2 m2 d2))
 go_wp2
 refine bodyPost_ret (results_cell_row Tryz.results43 _ _ (w.heap.size+1+1) 44 #[.bool (zneg q.num),.slice a2 n2 c2,.slice b2 m2 d2] (0,0) _ rfl HR.out Tryz.underlying44 rfl (by kernel_rfl)) rfl ?_
 exact⟨a2,n2,c2,b2,m2,d2,rfl,R2.out,T2.out,HB.out⟩
theorem pw_(na:Bool)(a:OA_)(n cap:Nat)(la:List Nat)(b:OA_)(m cap':Nat)(lb:List Nat)(nb:Bool)(a':OA_)(n' c':Nat)(la':List Nat)(b':OA_)(m' d':Nat)(lb':List Nat)(w:World)(ha:Wd w a n cap la)(hb:Wd w b m cap' lb)(ha':Wd w a' n' c' la')(hb':Wd w b' m' d' lb')(hn:n≤15728640000)(hm:m≤15728640000)(hn':n'≤15728640000)(hm':m'≤15728640000) :
 Calls Tryz.prog 63 #[frV na a n cap b m cap',frV nb a' n' c' b' m' d'] w (fc_ (qval na (val la) (val lb) / qval nb (val la') (val lb')) (.bool (decide (qval nb (val la') (val lb')≠0))) w):=by
 have HB:=hd_ (ab_ (ab_ (aa_ w (.cells #[.bool na,.slice a n cap,.slice b m cap'] 44)) (aa_ _ (.cells #[.bool nb,.slice a' n' c',.slice b' m' d'] 44))) (aa_ _ (.cells #[.bool false,.slice none 0 0,.slice none 0 0] 44)))
 have HA:=hd_ (ha.later HB.out)
 have HC:=hd_ (hb.later HB.out)
 have HA':=hd_ (ha'.later HB.out)
 have HC':=hd_ (hb'.later HB.out)
 obtain⟨hx1,hx2,hx3⟩:=e9_ w #[.bool na,.slice a n cap,.slice b m cap'] #[.bool nb,.slice a' n' c',.slice b' m' d'] #[.bool false,.slice none 0 0,.slice none 0 0] 44 44 44
 have HX:=hd_ hx1
 have HY:=hd_ hx2
 have HR:=hd_ hx3
 have ta:=ha.trim_le
 have tb:=hb.trim_le
 have ta':=ha'.trim_le
 have tb':=hb'.trim_le
 clear ha hb ha' hb' hx1 hx2 hx3
 have H0:Hid (sgn (qval nb (val la') (val lb')).num=0→qval na (val la) (val lb) / qval nb (val la') (val lb')=0∧qval nb (val la') (val lb')=0):=hd_ (fun h=>by
  have h1:=fc_qsign_zero.1 h
  exact⟨by rw[h1,Rat.div_def,Rat.inv_zero,Rat.mul_zero],h1⟩)
 have H1:Hid (sgn (qval nb (val la') (val lb')).num≠0→qval nb (val la') (val lb')≠0):=hd_ (fun h e=>h (fc_qsign_zero.2 e))
 have HT:Hid (qval na (val la) (val lb) * qval nb (val lb') (val la')=qval na (val la) (val lb) / qval nb (val la') (val lb')):=hd_ (by rw[oe_ nb (val la') (val lb'),Rat.div_def])
 generalize qval na (val la) (val lb) / qval nb (val la') (val lb')=q at *
 generalize hp:qval nb (val la') (val lb')=p at *
 have HP:=hd_ hp
 clear hp
 go_enter Tryz.func63,Tryz.ntmps63
 unfold frV
 obtain⟨vk0,vk1,vk2,vk3,vk4,vk5,vk6,vk7,vk8⟩:=b9_ HX.out HY.out HR.out
 go_wp2_with fail
 refine (fg_ nb a' n' c' la' b' m' d' lb' _ HA'.out HC'.out (by omega) (by omega)).mono ?_
 rintro e wv1 ⟨rfl,b⟩
 clear vk0 vk1 vk2 vk3 vk4 vk5 vk6 vk7 vk8
 replace HB:=bt_ HB b
 replace HX:=bl_ HX b
 replace HY:=bl_ HY b
 replace HR:=bl_ HR b
 replace HA:=HA.l_ b
 replace HC:=HC.l_ b
 replace HA':=HA'.l_ b
 replace HC':=HC'.l_ b
 clear b
 rw[HP.out]
 generalize sgn p.num=s at *
 by_cases h0:s=0
 ·have hs:(s == 0)=true:=by simp[h0]
  have HQ0:Hid (((0:Int):Rat)=q):=hd_ (by rw[(H0.out h0).1];rfl)
  have HD:Hid (decide (p≠0)=false):=hd_ (decide_eq_false (fun h=>h (H0.out h0).2))
  clear h0 H0 H1 HA HC HA' HC'
  obtain⟨uk0,uk1,uk2,uk3,uk4,uk5,uk6,uk7,uk8⟩:=b9_ HX.out HY.out HR.out
  go_wp2_with fail
  refine (eg_ 0 _ ev_).mono ?_
  rintro e wu1 ⟨a1,n1,c1,b1,m1,d1,rfl,h1,g1,b⟩
  clear uk0 uk1 uk2 uk3 uk4 uk5 uk6 uk7 uk8
  replace HB:=bt_ HB b
  replace HX:=bl_ HX b
  replace HY:=bl_ HY b
  replace HR:=bl_ HR b
  clear b
  rw[HQ0.out] at h1 g1 ⊢
  have R1:=hd_ h1
  have T1:=hd_ g1
  clear h1 g1
  unfold frV
  have q0:=ad_ HR.out 0
  have q1:=ad_ HR.out 1
  have q2:=ad_ HR.out 2
  simp only[List.getElem?_toArray,List.getElem?_cons_zero,List.getElem?_cons_succ] at q0 q1 q2
  have f0:=ah_ HR.out 0
  have f1:=ah_ HR.out 1
  have f2:=ah_ HR.out 2
  replace HX:=hd_ (bz_ HX.out (show w.heap.size≠w.heap.size+1+1 by omega) (.bool (zneg q.num)) (.slice a1 n1 c1) (.slice b1 m1 d1))
  replace HY:=hd_ (bz_ HY.out (show w.heap.size+1≠w.heap.size+1+1 by omega) (.bool (zneg q.num)) (.slice a1 n1 c1) (.slice b1 m1 d1))
  replace R1:=hd_ (R1.out.stored3 HR.out ((zneg q.num)) a1 n1 c1 (.slice b1 m1 d1))
  replace T1:=hd_ (T1.out.stored3 HR.out ((zneg q.num)) a1 n1 c1 (.slice b1 m1 d1))
  replace HB:=hd_ (a3_ HB.out (show w.heap.size≤w.heap.size+1+1 by omega) (.bool (zneg q.num)) (.slice a1 n1 c1) (.slice b1 m1 d1))
  replace HR:=hd_ (bu_ HR.out (.bool (zneg q.num)) (.slice a1 n1 c1) (.slice b1 m1 d1))
  go_wp2
  refine bodyPost_ret (bn_ Tryz.results63 _ _ (w.heap.size+1+1) 44 #[.bool (zneg q.num),.slice a1 n1 c1,.slice b1 m1 d1] (0,0) _ rfl HR.out Tryz.underlying44 rfl (by kernel_rfl)) rfl ?_
  exact⟨a1,n1,c1,b1,m1,d1,by rw[HD.out];rfl,R1.out,T1.out,HB.out⟩
 ·have hs:(s == 0)=false:=by simp[h0]
  have HD:Hid (decide (p≠0)=true):=hd_ (decide_eq_true (H1.out h0))
  clear h0 H0 H1
  obtain⟨uk0,uk1,uk2,uk3,uk4,uk5,uk6,uk7,uk8⟩:=b9_ HX.out HY.out HR.out
  go_wp2
  clear uk0 uk1 uk2 uk3 uk4 uk5 uk6 uk7 uk8
  replace HB:=bt_ HB (dw_ wv1)
  replace HX:Hid (wv1.drew.heap[w.heap.size]? = _):=hd_ HX.out
  replace HY:Hid (wv1.drew.heap[w.heap.size+1]? = _):=hd_ HY.out
  replace HR:Hid (wv1.drew.heap[w.heap.size+1+1]? = some (.cells #[.bool false,.slice none 0 0,.slice none 0 0] 44 (0,0))):=hd_ HR.out
  replace HA:=HA.l_ (dw_ wv1)
  replace HC:=HC.l_ (dw_ wv1)
  replace HA':=HA'.l_ (dw_ wv1)
  replace HC':=HC'.l_ (dw_ wv1)
  have pSn:=a7_ HX.out HY.out
  go_region_held3 (fun w'=>w'.cell? ⟨w.heap.size,0,none⟩=some (.bool na)∧w'.cell? ⟨w.heap.size,1,none⟩=some (.slice a n cap)∧w'.cell? ⟨w.heap.size,2,none⟩=some (.slice b m cap')∧w'.cell? ⟨w.heap.size+1,0,none⟩=some (.bool nb)∧w'.cell? ⟨w.heap.size+1,1,none⟩=some (.slice a' n' c')∧w'.cell? ⟨w.heap.size+1,2,none⟩=some (.slice b' m' d')) (first | exact pSn | exact pSb _ _ _)
   (first
   | (go_at_call 108;(first
     | (refine (rj_ nb a' n' c' b' m' d' _).mono ?_;rintro e wp1 ⟨rfl,b⟩;replace HB:=bt_ HB b;replace HX:=bl_ HX b;replace HY:=bl_ HY b;replace HR:=bl_ HR b;replace HA:=HA.l_ b;replace HC:=HC.l_ b;replace HA':=HA'.l_ b;replace HC':=HC'.l_ b;unfold frV;clear b;clear pSn;have pSn:=a7_ HX.out HY.out;have pM1:=True.intro)))
   | (go_at_call 43;(first
     | (have pm1:=pM1;refine (qs_ na a n cap la b m cap' lb nb b' m' d' lb' a' n' c' la' _ HA.out HC.out HC'.out HA'.out hn hm hm' hn').mono ?_;rintro e wp2 ⟨a1,n1,c1,b1,m1,d1,rfl,h1,g1,b⟩;replace HB:=bt_ HB b;replace HX:=bl_ HX b;replace HY:=bl_ HY b;replace HR:=bl_ HR b;replace HA:=HA.l_ b;replace HC:=HC.l_ b;replace HA':=HA'.l_ b;replace HC':=HC'.l_ b;rw[HT.out] at h1 g1 ⊢;have R1:=hd_ h1;have T1:=hd_ g1;clear h1 g1;obtain⟨r0,r1,r2⟩:=av_ HR.out;have f0:=ah_ HR.out 0;have f1:=ah_ HR.out 1;have f2:=ah_ HR.out 2;have pSb:=fun u v q=>a7_ (bz_ (g:=w.heap.size+1+1) HX.out (by omega) u v q) (bz_ (g:=w.heap.size+1+1) HY.out (by omega) u v q);unfold frV;clear b;clear pSn;have pSn:=a7_ HX.out HY.out;clear pM1 pm1;have pM2:=True.intro))))
  have HG:=hd_ (bu_ HR.out (.bool (zneg q.num)) (.slice a1 n1 c1) (.slice b1 m1 d1))
  have HL:=hd_ (a3_ HB.out (show w.heap.size≤w.heap.size+1+1 by omega) (.bool (zneg q.num)) (.slice a1 n1 c1) (.slice b1 m1 d1))
  have HW1:=hd_ (R1.out.stored3 HR.out (zneg q.num) a1 n1 c1 (.slice b1 m1 d1))
  have HW2:=hd_ (T1.out.stored3 HR.out (zneg q.num) a1 n1 c1 (.slice b1 m1 d1))
  go_wp2
  refine bodyPost_ret (bn_ Tryz.results63 _ _ (w.heap.size+1+1) 44 #[.bool (zneg q.num),.slice a1 n1 c1,.slice b1 m1 d1] (0,0) _ rfl HG.out Tryz.underlying44 rfl (by kernel_rfl)) rfl ?_
  exact⟨a1,n1,c1,b1,m1,d1,by rw[HD.out];rfl,HW1.out,HW2.out,HL.out⟩
theorem rb_(x y:Int)(w:World)(hx:gq_ x)(hy:gq_ y):Calls Tryz.prog 48 #[.int .i64 x,.int .i64 y] w (fc_ ((x:Rat) / (y:Rat)) (.bool (decide (y≠0))) w):=by
 have lx:=ci_ hx
 have ly:=ci_ hy
 have HX:=hd_ hx
 have HY:=hd_ hy
 have HB:=hd_ (aa_ w (.cells #[.bool false,.slice none 0 0,.slice none 0 0] 44))
 have HR:=hd_ (ao_ w #[.bool false,.slice none 0 0,.slice none 0 0] 44)
 have HD:Hid (decide ((y:Rat)≠0)=decide (y≠0)):=hd_ (decide_eq_decide.2 (by rw[Ne,Rat.intCast_eq_zero_iff]))
 clear hx hy
 generalize hp:(x:Rat)=p at *
 generalize hr:(y:Rat)=r at *
 have HPX:=hd_ hp
 have HRY:=hd_ hr
 clear hp hr
 have HT:Hid (qval (zneg p.num) (val (dg p.num.natAbs)) (val (dg p.den)) / qval (zneg r.num) (val (dg r.num.natAbs)) (val (dg r.den))=p / r):=hd_ (by rw[fx_,fx_])
 have HE:Hid (decide (qval (zneg r.num) (val (dg r.num.natAbs)) (val (dg r.den))≠0)=decide (y≠0)):=hd_ (by rw[fx_];exact HD.out)
 have l1:=bf_ p
 have l2:=bd_ p
 have l3:=bf_ r
 have l4:=bd_ r
 obtain⟨q,hq⟩:∃q,p / r=q:=⟨_,rfl⟩
 rw[hq]
 have HQ:=hd_ hq
 clear hq
 go_enter Tryz.func48,Tryz.ntmps48
 obtain⟨vk0,vk1,vk2⟩:=av_ HR.out
 go_wp2_with fail
 refine (eg_ x _ HX.out).mono ?_
 rintro e wv1 ⟨a1,n1,c1,b1,m1,d1,rfl,h1,g1,b⟩
 clear vk0 vk1 vk2
 replace HB:=bt_ HB b
 replace HR:=bl_ HR b
 clear b
 rw[HPX.out] at h1 g1 ⊢
 have ln1:=h1.len
 have lm1:=g1.len
 have R1:=hd_ h1
 have T1:=hd_ g1
 clear h1 g1
 unfold frV
 obtain⟨vk0,vk1,vk2⟩:=av_ HR.out
 go_wp2_with fail
 refine (eg_ y _ HY.out).mono ?_
 rintro e wv2 ⟨a2,n2,c2,b2,m2,d2,rfl,h2,g2,b⟩
 clear vk0 vk1 vk2
 replace HB:=bt_ HB b
 replace HR:=bl_ HR b
 replace R1:=R1.l_ b
 replace T1:=T1.l_ b
 clear b
 rw[HRY.out] at h2 g2 ⊢
 have ln2:=h2.len
 have lm2:=g2.len
 have R2:=hd_ h2
 have T2:=hd_ g2
 clear h2 g2
 unfold frV
 obtain⟨vk0,vk1,vk2⟩:=av_ HR.out
 go_wp2_with fail
 refine (pw_ _ a1 n1 c1 _ b1 m1 d1 _ _ a2 n2 c2 _ b2 m2 d2 _ _ R1.out T1.out R2.out T2.out (by omega) (by omega) (by omega) (by omega)).mono ?_
 rintro e wv3 ⟨a3,n3,c3,b3,m3,d3,rfl,h3,g3,b⟩
 clear vk0 vk1 vk2
 replace HB:=bt_ HB b
 replace HR:=bl_ HR b
 clear R1
 clear T1
 clear R2
 clear T2
 clear b
 rw[HT.out,HQ.out] at h3 g3
 rw[HT.out,HQ.out,HE.out]
 generalize decide (y≠0)=s at *
 have R3:=hd_ h3
 have T3:=hd_ g3
 clear h3 g3
 unfold frV
 have q0:=ad_ HR.out 0
 have q1:=ad_ HR.out 1
 have q2:=ad_ HR.out 2
 simp only[List.getElem?_toArray,List.getElem?_cons_zero,List.getElem?_cons_succ] at q0 q1 q2
 have f0:=ah_ HR.out 0
 have f1:=ah_ HR.out 1
 have f2:=ah_ HR.out 2
 replace R3:=hd_ (R3.out.stored3 HR.out ((zneg q.num)) a3 n3 c3 (.slice b3 m3 d3))
 replace T3:=hd_ (T3.out.stored3 HR.out ((zneg q.num)) a3 n3 c3 (.slice b3 m3 d3))
 replace HB:=hd_ (a3_ HB.out (show w.heap.size≤w.heap.size by omega) (.bool (zneg q.num)) (.slice a3 n3 c3) (.slice b3 m3 d3))
 replace HR:=hd_ (bu_ HR.out (.bool (zneg q.num)) (.slice a3 n3 c3) (.slice b3 m3 d3))
 go_wp2
 refine bodyPost_ret (bn_ Tryz.results48 _ _ (w.heap.size) 44 #[.bool (zneg q.num),.slice a3 n3 c3,.slice b3 m3 d3] (0,0) _ rfl HR.out Tryz.underlying44 rfl (by kernel_rfl)) rfl ?_
 exact⟨a3,n3,c3,b3,m3,d3,rfl,R3.out,T3.out,HB.out⟩
theorem frac_cmp(na:Bool)(a:OA_)(n cap:Nat)(la:List Nat)(b:OA_)(m cap':Nat)(lb:List Nat)(nb:Bool)(a':OA_)(n' c':Nat)(la':List Nat)(b':OA_)(m' d':Nat)(lb':List Nat)(w:World)(ha:Wd w a n cap la)(hb:Wd w b m cap' lb)(ha':Wd w a' n' c' la')(hb':Wd w b' m' d' lb')(hn:n≤41943040000)(hm:m≤41943040000)(hn':n'≤41943040000)(hm':m'≤41943040000) :
 Calls Tryz.prog 85 #[frV na a n cap b m cap',frV nb a' n' c' b' m' d'] w (bo_ (.int .i64 (sgn (qval na (val la) (val lb) - qval nb (val la') (val lb')).num)) w):=by
 have HB:=hd_ (ab_ (aa_ w (.cells #[.bool na,.slice a n cap,.slice b m cap'] 44)) (aa_ _ (.cells #[.bool nb,.slice a' n' c',.slice b' m' d'] 44)))
 have HA:=hd_ (ha.later HB.out)
 have HC:=hd_ (hb.later HB.out)
 have HA':=hd_ (ha'.later HB.out)
 have HC':=hd_ (hb'.later HB.out)
 obtain⟨hx1,hx2⟩:=d0_ w ((w.alloc (.cells #[.bool na,.slice a n cap,.slice b m cap'] 44)).alloc (.cells #[.bool nb,.slice a' n' c',.slice b' m' d'] 44)) #[.bool na,.slice a n cap,.slice b m cap'] #[.bool nb,.slice a' n' c',.slice b' m' d'] 44 44 (Below.refl _ _)
 have HX:=hd_ hx1
 have HY:=hd_ hx2
 have ta:=ha.trim_le
 have tb:=hb.trim_le
 have ta':=ha'.trim_le
 have tb':=hb'.trim_le
 clear ha hb ha' hb' hx1 hx2
 have zl1:=g7_ (zval na (val la)) ((val lb':Nat):Int)
 have zl2:=g7_ (zval nb (val la')) ((val lb:Nat):Int)
 rw[d8_,Int.natAbs_natCast] at zl1 zl2
 have HF:Hid (sgn (qval na (val la) (val lb)).num≠sgn (qval nb (val la') (val lb')).num→sgn (sgn (qval na (val la) (val lb)).num - sgn (qval nb (val la') (val lb')).num)=sgn (qval na (val la) (val lb) - qval nb (val la') (val lb')).num):=hd_ o6_
 have HE0:Hid (sgn (qval na (val la) (val lb)).num=sgn (qval nb (val la') (val lb')).num→sgn (qval na (val la) (val lb)).num=0→sgn (qval na (val la) (val lb) - qval nb (val la') (val lb')).num=0):=hd_ (fun h h0=>by
  rw[fc_qsign_zero.1 h0,fc_qsign_zero.1 (h.symm.trans h0),Rat.sub_self];rfl)
 have HN:Hid (sgn (qval na (val la) (val lb)).num=sgn (qval nb (val la') (val lb')).num→sgn (qval na (val la) (val lb)).num≠0→sgn (zval na (val la) * ((val lb':Nat):Int) - zval nb (val la') * ((val lb:Nat):Int))=sgn (qval na (val la) (val lb) - qval nb (val la') (val lb')).num):=hd_ (fun h h0=>by
  refine ni_ (fun e=>h0 ?_) (fun e=>h0 ?_)
  ·rw[eb_ na (.inl e)];rfl
  ·rw[h,eb_ nb (.inl e)];rfl)
 have hra:=ht_ (qval na (val la) (val lb)).num
 have hrb:=ht_ (qval nb (val la') (val lb')).num
 generalize hz:sgn (qval na (val la) (val lb) - qval nb (val la') (val lb')).num=z at *
 generalize hx:sgn (qval na (val la) (val lb)).num=x at *
 generalize hy:sgn (qval nb (val la') (val lb')).num=y at *
 have HSA:=hd_ hx
 have HSB:=hd_ hy
 clear hx hy hz
 go_enter Tryz.func85,Tryz.ntmps85
 unfold frV
 go_wp2
 generalize ((w.alloc (.cells #[.bool na,.slice a n cap,.slice b m cap'] 44)).alloc (.cells #[.bool nb,.slice a' n' c',.slice b' m' d'] 44))=W at *
 replace HB:=bt_ HB (dw_ W)
 replace HX:Hid (W.drew.heap[w.heap.size]? = _):=hd_ HX.out
 replace HY:Hid (W.drew.heap[w.heap.size+1]? = _):=hd_ HY.out
 replace HA:=HA.l_ (dw_ W)
 replace HC:=HC.l_ (dw_ W)
 replace HA':=HA'.l_ (dw_ W)
 replace HC':=HC'.l_ (dw_ W)
 have pSn:=a7_ HX.out HY.out
 go_region_held3 (fun w'=>w'.cell? ⟨w.heap.size,0,none⟩=some (.bool na)∧w'.cell? ⟨w.heap.size,1,none⟩=some (.slice a n cap)∧w'.cell? ⟨w.heap.size,2,none⟩=some (.slice b m cap')∧w'.cell? ⟨w.heap.size+1,0,none⟩=some (.bool nb)∧w'.cell? ⟨w.heap.size+1,1,none⟩=some (.slice a' n' c')∧w'.cell? ⟨w.heap.size+1,2,none⟩=some (.slice b' m' d')) (exact pSn)
  (first
  | (go_at_call 44;(first
    | (have pm1:=pM1;refine (fg_ nb a' n' c' la' b' m' d' lb' _ HA'.out HC'.out (by omega) (by omega)).mono ?_;rintro e wp2 ⟨rfl,b⟩;replace HB:=bt_ HB b;replace HX:=bl_ HX b;replace HY:=bl_ HY b;replace HA:=HA.l_ b;replace HC:=HC.l_ b;replace HA':=HA'.l_ b;replace HC':=HC'.l_ b;rw[HSB.out];clear b;clear pSn;have pSn:=a7_ HX.out HY.out;clear pM1 pm1;have pM2:=True.intro)
    | (refine (fg_ na a n cap la b m cap' lb _ HA.out HC.out (by omega) (by omega)).mono ?_;rintro e wp1 ⟨rfl,b⟩;replace HB:=bt_ HB b;replace HX:=bl_ HX b;replace HY:=bl_ HY b;replace HA:=HA.l_ b;replace HC:=HC.l_ b;replace HA':=HA'.l_ b;replace HC':=HC'.l_ b;rw[HSA.out];clear b;clear pSn;have pSn:=a7_ HX.out HY.out;have pM1:=True.intro))))
 clear HSA HSB pSn pM2
 by_cases hxy:x=y
 ·by_cases hx0:x=0
  ·have HZ:Hid (z=0):=hd_ (HE0.out hxy hx0)
   have HS:Hid (sgn ((0:Int) - 0)=0):=hd_ rfl
   clear HF HE0 HN zl1 zl2
   obtain rfl:y=0:=by omega
   obtain rfl:x=0:=hx0
   clear hxy hra hrb
   go_wp2_with fail
   refine (g0_ 0 0 _).mono ?_
   rintro e w' ⟨rfl,rfl⟩
   rw[HS.out]
   go_wp2
   go_ret
   exact⟨by rw[HZ.out];rfl,HB.out⟩
  ·have hq0:(x == 0)=false:=by simp[hx0]
   have HZ:=hd_ (HN.out hxy hx0)
   clear HF HE0 HN hx0
   subst hxy
   obtain⟨uk0,uk1,uk2,uk3,uk4,uk5⟩:=a7_ HX.out HY.out
   go_wp2
   clear uk0 uk1 uk2 uk3 uk4 uk5
   replace HB:=bt_ HB (dw_ wp2)
   replace HX:Hid (wp2.drew.heap[w.heap.size]? = _):=hd_ HX.out
   replace HY:Hid (wp2.drew.heap[w.heap.size+1]? = _):=hd_ HY.out
   replace HA:=HA.l_ (dw_ wp2)
   replace HC:=HC.l_ (dw_ wp2)
   replace HA':=HA'.l_ (dw_ wp2)
   replace HC':=HC'.l_ (dw_ wp2)
   have rSn:=a7_ HX.out HY.out
   go_region_held3 (fun w'=>w'.cell? ⟨w.heap.size,0,none⟩=some (.bool na)∧w'.cell? ⟨w.heap.size,1,none⟩=some (.slice a n cap)∧w'.cell? ⟨w.heap.size,2,none⟩=some (.slice b m cap')∧w'.cell? ⟨w.heap.size+1,0,none⟩=some (.bool nb)∧w'.cell? ⟨w.heap.size+1,1,none⟩=some (.slice a' n' c')∧w'.cell? ⟨w.heap.size+1,2,none⟩=some (.slice b' m' d')) (exact rSn)
    (first
    | (go_at_call 89;(first
      | (have rm1:=rM1;refine (gj_ nb a' n' c' la' b m cap' lb _ HA'.out HC.out (by omega) (by omega)).mono ?_;rintro e wr2 ⟨a2,n2,c2,rfl,h2,b⟩;replace HB:=bt_ HB b;replace HX:=bl_ HX b;replace HY:=bl_ HY b;replace HA:=HA.l_ b;replace HC:=HC.l_ b;replace HA':=HA'.l_ b;replace HC':=HC'.l_ b;replace R1:=R1.l_ b;have R2:=hd_ h2;have ln2:=h2.len;clear h2;unfold whV;clear b;clear rSn;have rSn:=a7_ HX.out HY.out;clear rM1 rm1;have rM2:=True.intro)
      | (refine (gj_ na a n cap la b' m' d' lb' _ HA.out HC'.out (by omega) (by omega)).mono ?_;rintro e wr1 ⟨a1,n1,c1,rfl,h1,b⟩;replace HB:=bt_ HB b;replace HX:=bl_ HX b;replace HY:=bl_ HY b;replace HA:=HA.l_ b;replace HC:=HC.l_ b;replace HA':=HA'.l_ b;replace HC':=HC'.l_ b;have R1:=hd_ h1;have ln1:=h1.len;clear h1;unfold whV;clear b;clear rSn;have rSn:=a7_ HX.out HY.out;have rM1:=True.intro)))
    | (go_at_call 125;(first
      | (have rm2:=rM2;refine (whole_cmp _ a1 n1 c1 _ _ a2 n2 c2 _ _ R1.out R2.out (by omega) (by omega)).mono ?_;rintro e wr3 ⟨rfl,b⟩;replace HB:=bt_ HB b;replace HX:=bl_ HX b;replace HY:=bl_ HY b;replace HA:=HA.l_ b;replace HC:=HC.l_ b;replace HA':=HA'.l_ b;replace HC':=HC'.l_ b;clear R1;clear R2;rw[md_,md_,HZ.out];clear b;clear rSn;have rSn:=a7_ HX.out HY.out;clear rM2 rm2;have rM3:=True.intro))))
   go_wp2
   go_ret
   exact⟨rfl,HB.out⟩
 ·have hq:(x == y)=false:=by simp[hxy]
  have HZ:=hd_ (HF.out hxy)
  clear HF HE0 HN hxy zl1 zl2
  go_wp2_with fail
  refine (g0_ x y _).mono ?_
  rintro e w' ⟨rfl,rfl⟩
  rw[HZ.out]
  go_wp2
  go_ret
  exact⟨rfl,HB.out⟩
theorem frac_same(na:Bool)(a:OA_)(n cap:Nat)(la:List Nat)(b:OA_)(m cap':Nat)(lb:List Nat)(nb:Bool)(a':OA_)(n' c':Nat)(la':List Nat)(b':OA_)(m' d':Nat)(lb':List Nat)(w:World)(ha:Wd w a n cap la)(hb:Wd w b m cap' lb)(ha':Wd w a' n' c' la')(hb':Wd w b' m' d' lb')(hn:n≤41943040000)(hm:m≤41943040000)(hn':n'≤41943040000)(hm':m'≤41943040000) :
 Calls Tryz.prog 40 #[frV na a n cap b m cap',frV nb a' n' c' b' m' d'] w (bo_ (.bool (decide (qval na (val la) (val lb)=qval nb (val la') (val lb')))) w):=by
 have HB:=hd_ (ab_ (aa_ w (.cells #[.bool na,.slice a n cap,.slice b m cap'] 44)) (aa_ _ (.cells #[.bool nb,.slice a' n' c',.slice b' m' d'] 44)))
 have HA:=hd_ (ha.later HB.out)
 have HC:=hd_ (hb.later HB.out)
 have HA':=hd_ (ha'.later HB.out)
 have HC':=hd_ (hb'.later HB.out)
 obtain⟨hx1,hx2⟩:=d0_ w ((w.alloc (.cells #[.bool na,.slice a n cap,.slice b m cap'] 44)).alloc (.cells #[.bool nb,.slice a' n' c',.slice b' m' d'] 44)) #[.bool na,.slice a n cap,.slice b m cap'] #[.bool nb,.slice a' n' c',.slice b' m' d'] 44 44 (Below.refl _ _)
 have HX:=hd_ hx1
 have HY:=hd_ hx2
 have ta:=ha.trim_le
 have tb:=hb.trim_le
 have ta':=ha'.trim_le
 have tb':=hb'.trim_le
 clear ha hb ha' hb' hx1 hx2
 have HE:Hid ((sgn (qval na (val la) (val lb) - qval nb (val la') (val lb')).num == 0)=decide (qval na (val la) (val lb)=qval nb (val la') (val lb'))):=hd_ (by
  by_cases h:qval na (val la) (val lb)=qval nb (val la') (val lb')
  ·rw[decide_eq_true h,h,Rat.sub_self];rfl
  ·rw[decide_eq_false h,beq_eq_false_iff_ne]
   exact fun e=>h (by
    have h1:=fc_qsign_zero.1 e
    rw[Rat.sub_eq_add_neg] at h1
    have h2:=congrArg (· + qval nb (val la') (val lb')) h1
    simp only[Rat.add_assoc,Rat.neg_add_cancel,Rat.add_zero,Rat.zero_add] at h2
    exact h2))
 go_enter Tryz.func40,Tryz.ntmps40
 unfold frV
 obtain⟨vk0,vk1,vk2,vk3,vk4,vk5⟩:=a7_ HX.out HY.out
 go_wp2_with fail
 refine (frac_cmp na a n cap la b m cap' lb nb a' n' c' la' b' m' d' lb' _ HA.out HC.out HA'.out HC'.out hn hm hn' hm').mono ?_
 rintro e wv1 ⟨rfl,b⟩
 clear vk0 vk1 vk2 vk3 vk4 vk5
 replace HB:=bt_ HB b
 replace HX:=bl_ HX b
 replace HY:=bl_ HY b
 replace HA:=HA.l_ b
 replace HC:=HC.l_ b
 replace HA':=HA'.l_ b
 replace HC':=HC'.l_ b
 clear b
 clear HX HY HA HC HA' HC'
 generalize decide (qval na (val la) (val lb)=qval nb (val la') (val lb'))=s at *
 generalize sgn (qval na (val la) (val lb) - qval nb (val la') (val lb')).num=z at *
 go_wp2
 go_ret
 exact⟨by rw[←HE.out];rfl,HB.out⟩
theorem qn_(na:Bool)(a:OA_)(n cap:Nat)(la:List Nat)(b:OA_)(m cap':Nat)(lb:List Nat)(nb:Bool)(a':OA_)(n' c':Nat)(la':List Nat)(b':OA_)(m' d':Nat)(lb':List Nat)(w:World)(ha:Wd w a n cap la)(hb:Wd w b m cap' lb)(ha':Wd w a' n' c' la')(hb':Wd w b' m' d' lb')(hn:n≤9437184000)(hm:m≤9437184000)(hn':n'≤9437184000)(hm':m'≤9437184000) :
 Calls Tryz.prog 41 #[frV na a n cap b m cap',frV nb a' n' c' b' m' d'] w (LstQ (qval na (val la) (val lb)+qval nb (val la') (val lb')) w):=by
 have HB:=hd_ (ab_ (ab_ (aa_ w (.cells #[.bool na,.slice a n cap,.slice b m cap'] 44)) (aa_ _ (.cells #[.bool nb,.slice a' n' c',.slice b' m' d'] 44))) (aa_ _ (.cells #[.bool false,.slice none 0 0,.slice none 0 0] 44)))
 have HA:=hd_ (ha.later HB.out)
 have HC:=hd_ (hb.later HB.out)
 have HA':=hd_ (ha'.later HB.out)
 have HC':=hd_ (hb'.later HB.out)
 obtain⟨hx1,hx2,hx3⟩:=e9_ w #[.bool na,.slice a n cap,.slice b m cap'] #[.bool nb,.slice a' n' c',.slice b' m' d'] #[.bool false,.slice none 0 0,.slice none 0 0] 44 44 44
 have HX:=hd_ hx1
 have HY:=hd_ hx2
 have HR:=hd_ hx3
 have ta:=ha.trim_le
 have tb:=hb.trim_le
 have ta':=ha'.trim_le
 have tb':=hb'.trim_le
 clear ha hb ha' hb' hx1 hx2 hx3
 have H0A:Hid (sgn (qval na (val la) (val lb)).num=0→qval nb (val la') (val lb')=qval na (val la) (val lb)+qval nb (val la') (val lb')):=hd_ (fun h=>by rw[fc_qsign_zero.1 h,Rat.zero_add])
 have H0B:Hid (sgn (qval nb (val la') (val lb')).num=0→qval na (val la) (val lb)=qval na (val la) (val lb)+qval nb (val la') (val lb')):=hd_ (fun h=>by rw[fc_qsign_zero.1 h,Rat.add_zero])
 have H1A:Hid (sgn (qval na (val la) (val lb)).num≠0→val lb≠0):=hd_ (fun h e=>h (by rw[eb_ na (.inl e)];rfl))
 have H1B:Hid (sgn (qval nb (val la') (val lb')).num≠0→val lb'≠0):=hd_ (fun h e=>h (by rw[eb_ nb (.inl e)];rfl))
 obtain⟨X,hX⟩:∃X,val lb / Nat.gcd (val lb) (val lb')=X:=⟨_,rfl⟩
 obtain⟨Y,hY⟩:∃Y,val lb' / Nat.gcd (val lb) (val lb')=Y:=⟨_,rfl⟩
 have lX:(dg X).length≤9437184000:=by rw[←hX];exact Nat.le_trans (ax_ (Nat.div_le_self _ _)) (by omega)
 have lY:(dg Y).length≤9437184000:=by rw[←hY];exact Nat.le_trans (ax_ (Nat.div_le_self _ _)) (by omega)
 obtain⟨s1,hs1⟩:∃s1,zval na (val la) * (Y:Int)=s1:=⟨_,rfl⟩
 obtain⟨s2,hs2⟩:∃s2,zval nb (val la') * (X:Int)=s2:=⟨_,rfl⟩
 obtain⟨D,hD⟩:∃D,val lb * Y=D:=⟨_,rfl⟩
 have zl1:=g7_ (zval na (val la)) (Y:Int)
 have zl2:=g7_ (zval nb (val la')) (X:Int)
 have zl3:=b4_ (val lb) Y
 rw[d8_,Int.natAbs_natCast,hs1] at zl1
 rw[d8_,Int.natAbs_natCast,hs2] at zl2
 rw[hD] at zl3
 have zl4:=zlen_add s1 s2
 have HS1:Hid (zval na (val la) * ((val (dg Y):Nat):Int)=s1):=hd_ (by rw[a8_];exact hs1)
 have HS2:Hid (zval nb (val la') * ((val (dg X):Nat):Int)=s2):=hd_ (by rw[a8_];exact hs2)
 have HD:Hid (val lb * val (dg Y)=D):=hd_ (by rw[a8_];exact hD)
 have HZ:Hid (val lb≠0→val lb'≠0→qval (zneg (s1+s2)) (val (dg (s1+s2).natAbs)) (val (dg D))=qval na (val la) (val lb)+qval nb (val la') (val lb')):=hd_ (fun h h'=>by
  rw[a8_,a8_,lh_,←hs1,←hs2,←hD,←hX,←hY]
  exact o2_ na nb _ _ _ _ h h')
 have EX:=hd_ hX
 have EY:=hd_ hY
 clear hX hY hs1 hs2 hD
 generalize hq:qval na (val la) (val lb)+qval nb (val la') (val lb')=q at *
 generalize hp:qval na (val la) (val lb)=p at *
 generalize hr:qval nb (val la') (val lb')=r at *
 have HP:=hd_ hp
 have HR9:=hd_ hr
 clear hp hr hq
 go_enter Tryz.func41,Tryz.ntmps41
 unfold frV
 obtain⟨vk0,vk1,vk2,vk3,vk4,vk5,vk6,vk7,vk8⟩:=b9_ HX.out HY.out HR.out
 go_wp2_with fail
 refine (fg_ na a n cap la b m cap' lb _ HA.out HC.out (by omega) (by omega)).mono ?_
 rintro e wv1 ⟨rfl,b⟩
 clear vk0 vk1 vk2 vk3 vk4 vk5 vk6 vk7 vk8
 replace HB:=bt_ HB b
 replace HX:=bl_ HX b
 replace HY:=bl_ HY b
 replace HR:=bl_ HR b
 replace HA:=HA.l_ b
 replace HC:=HC.l_ b
 replace HA':=HA'.l_ b
 replace HC':=HC'.l_ b
 clear b
 rw[HP.out]
 generalize sgn p.num=x at *
 by_cases hx0:x=0
 ·have hq:(x == 0)=true:=by simp[hx0]
  have HQ0:Hid (qval nb (val la') (val lb')=q):=hd_ (HR9.out.trans (H0A.out hx0))
  clear hx0 H0A H0B H1A H1B HZ HA HC zl1 zl2 zl3 zl4 lX lY
  obtain⟨uk0,uk1,uk2,uk3,uk4,uk5,uk6,uk7,uk8⟩:=b9_ HX.out HY.out HR.out
  go_wp2_with fail
  refine (hj_ nb a' n' c' la' b' m' d' lb' _ HA'.out HC'.out (by omega) (by omega)).mono ?_
  rintro e wu1 ⟨a1,n1,c1,b1,m1,d1,rfl,h1,g1,b⟩
  clear uk0 uk1 uk2 uk3 uk4 uk5 uk6 uk7 uk8
  replace HB:=bt_ HB b
  replace HX:=bl_ HX b
  replace HY:=bl_ HY b
  replace HR:=bl_ HR b
  clear HA'
  clear HC'
  clear b
  rw[HQ0.out] at h1 g1 ⊢
  have R1:=hd_ h1
  have T1:=hd_ g1
  clear h1 g1
  unfold frV
  have q0:=ad_ HR.out 0
  have q1:=ad_ HR.out 1
  have q2:=ad_ HR.out 2
  simp only[List.getElem?_toArray,List.getElem?_cons_zero,List.getElem?_cons_succ] at q0 q1 q2
  have f0:=ah_ HR.out 0
  have f1:=ah_ HR.out 1
  have f2:=ah_ HR.out 2
  replace HX:=hd_ (bz_ HX.out (show w.heap.size≠w.heap.size+1+1 by omega) (.bool (zneg q.num)) (.slice a1 n1 c1) (.slice b1 m1 d1))
  replace HY:=hd_ (bz_ HY.out (show w.heap.size+1≠w.heap.size+1+1 by omega) (.bool (zneg q.num)) (.slice a1 n1 c1) (.slice b1 m1 d1))
  replace R1:=hd_ (R1.out.stored3 HR.out ((zneg q.num)) a1 n1 c1 (.slice b1 m1 d1))
  replace T1:=hd_ (T1.out.stored3 HR.out ((zneg q.num)) a1 n1 c1 (.slice b1 m1 d1))
  replace HB:=hd_ (a3_ HB.out (show w.heap.size≤w.heap.size+1+1 by omega) (.bool (zneg q.num)) (.slice a1 n1 c1) (.slice b1 m1 d1))
  replace HR:=hd_ (bu_ HR.out (.bool (zneg q.num)) (.slice a1 n1 c1) (.slice b1 m1 d1))
  go_wp2
  refine bodyPost_ret (results_cell_row Tryz.results41 _ _ (w.heap.size+1+1) 44 #[.bool (zneg q.num),.slice a1 n1 c1,.slice b1 m1 d1] (0,0) _ rfl HR.out Tryz.underlying44 rfl (by kernel_rfl)) rfl ?_
  exact⟨a1,n1,c1,b1,m1,d1,rfl,R1.out,T1.out,HB.out⟩
 ·have hq:(x == 0)=false:=by simp[hx0]
  have HV:=hd_ (H1A.out hx0)
  clear hx0 H0A H1A
  obtain⟨uk0,uk1,uk2,uk3,uk4,uk5,uk6,uk7,uk8⟩:=b9_ HX.out HY.out HR.out
  go_wp2_with fail
  refine (fg_ nb a' n' c' la' b' m' d' lb' _ HA'.out HC'.out (by omega) (by omega)).mono ?_
  rintro e wu1 ⟨rfl,b⟩
  clear uk0 uk1 uk2 uk3 uk4 uk5 uk6 uk7 uk8
  replace HB:=bt_ HB b
  replace HX:=bl_ HX b
  replace HY:=bl_ HY b
  replace HR:=bl_ HR b
  replace HA:=HA.l_ b
  replace HC:=HC.l_ b
  replace HA':=HA'.l_ b
  replace HC':=HC'.l_ b
  clear b
  rw[HR9.out]
  generalize sgn r.num=y at *
  by_cases hy0:y=0
  ·have hr:(y == 0)=true:=by simp[hy0]
   have HQ0:Hid (qval na (val la) (val lb)=q):=hd_ (HP.out.trans (H0B.out hy0))
   clear hy0 H0B H1B HZ HA' HC' zl1 zl2 zl3 zl4 lX lY
   obtain⟨tk0,tk1,tk2,tk3,tk4,tk5,tk6,tk7,tk8⟩:=b9_ HX.out HY.out HR.out
   go_wp2_with fail
   refine (hj_ na a n cap la b m cap' lb _ HA.out HC.out (by omega) (by omega)).mono ?_
   rintro e wt1 ⟨a1,n1,c1,b1,m1,d1,rfl,h1,g1,b⟩
   clear tk0 tk1 tk2 tk3 tk4 tk5 tk6 tk7 tk8
   replace HB:=bt_ HB b
   replace HX:=bl_ HX b
   replace HY:=bl_ HY b
   replace HR:=bl_ HR b
   clear HA
   clear HC
   clear b
   rw[HQ0.out] at h1 g1 ⊢
   have R1:=hd_ h1
   have T1:=hd_ g1
   clear h1 g1
   unfold frV
   have q0:=ad_ HR.out 0
   have q1:=ad_ HR.out 1
   have q2:=ad_ HR.out 2
   simp only[List.getElem?_toArray,List.getElem?_cons_zero,List.getElem?_cons_succ] at q0 q1 q2
   have f0:=ah_ HR.out 0
   have f1:=ah_ HR.out 1
   have f2:=ah_ HR.out 2
   replace HX:=hd_ (bz_ HX.out (show w.heap.size≠w.heap.size+1+1 by omega) (.bool (zneg q.num)) (.slice a1 n1 c1) (.slice b1 m1 d1))
   replace HY:=hd_ (bz_ HY.out (show w.heap.size+1≠w.heap.size+1+1 by omega) (.bool (zneg q.num)) (.slice a1 n1 c1) (.slice b1 m1 d1))
   replace R1:=hd_ (R1.out.stored3 HR.out ((zneg q.num)) a1 n1 c1 (.slice b1 m1 d1))
   replace T1:=hd_ (T1.out.stored3 HR.out ((zneg q.num)) a1 n1 c1 (.slice b1 m1 d1))
   replace HB:=hd_ (a3_ HB.out (show w.heap.size≤w.heap.size+1+1 by omega) (.bool (zneg q.num)) (.slice a1 n1 c1) (.slice b1 m1 d1))
   replace HR:=hd_ (bu_ HR.out (.bool (zneg q.num)) (.slice a1 n1 c1) (.slice b1 m1 d1))
   go_wp2
   refine bodyPost_ret (results_cell_row Tryz.results41 _ _ (w.heap.size+1+1) 44 #[.bool (zneg q.num),.slice a1 n1 c1,.slice b1 m1 d1] (0,0) _ rfl HR.out Tryz.underlying44 rfl (by kernel_rfl)) rfl ?_
   exact⟨a1,n1,c1,b1,m1,d1,rfl,R1.out,T1.out,HB.out⟩
  ·have hr:(y == 0)=false:=by simp[hy0]
   have HZ2:=hd_ (HZ.out HV.out (H1B.out hy0))
   clear hy0 H0B H1B HZ HV
   obtain⟨tk0,tk1,tk2,tk3,tk4,tk5,tk6,tk7,tk8⟩:=b9_ HX.out HY.out HR.out
   go_wp2_with fail
   refine (hc_ b m cap' lb b' m' d' lb' _ HC.out HC'.out (by omega) (by omega)).mono ?_
   rintro e wt1 ⟨ax,nx,cx,ay,ny,cy,rfl,hX,hY,b⟩
   clear tk0 tk1 tk2 tk3 tk4 tk5 tk6 tk7 tk8
   replace HB:=bt_ HB b
   replace HX:=bl_ HX b
   replace HY:=bl_ HY b
   replace HR:=bl_ HR b
   replace HA:=HA.l_ b
   replace HC:=HC.l_ b
   replace HA':=HA'.l_ b
   replace HC':=HC'.l_ b
   clear b
   rw[EX.out] at hX
   rw[EY.out] at hY
   have lnx:=hX.len
   have lny:=hY.len
   have RX:=hd_ hX
   have RY:=hd_ hY
   clear hX hY
   obtain⟨tk0,tk1,tk2,tk3,tk4,tk5,tk6,tk7,tk8⟩:=b9_ HX.out HY.out HR.out
   go_wp2
   clear tk0 tk1 tk2 tk3 tk4 tk5 tk6 tk7 tk8
   replace HB:=bt_ HB (dw_ wt1)
   replace HX:Hid (wt1.drew.heap[w.heap.size]? = _):=hd_ HX.out
   replace HY:Hid (wt1.drew.heap[w.heap.size+1]? = _):=hd_ HY.out
   replace HR:Hid (wt1.drew.heap[w.heap.size+1+1]? = some (.cells #[.bool false,.slice none 0 0,.slice none 0 0] 44 (0,0))):=hd_ HR.out
   replace HA:=HA.l_ (dw_ wt1)
   replace HC:=HC.l_ (dw_ wt1)
   replace HA':=HA'.l_ (dw_ wt1)
   replace HC':=HC'.l_ (dw_ wt1)
   replace RX:=RX.l_ (dw_ wt1)
   replace RY:=RY.l_ (dw_ wt1)
   have pSn:=a7_ HX.out HY.out
   go_region_held3 (fun w'=>w'.cell? ⟨w.heap.size,0,none⟩=some (.bool na)∧w'.cell? ⟨w.heap.size,1,none⟩=some (.slice a n cap)∧w'.cell? ⟨w.heap.size,2,none⟩=some (.slice b m cap')∧w'.cell? ⟨w.heap.size+1,0,none⟩=some (.bool nb)∧w'.cell? ⟨w.heap.size+1,1,none⟩=some (.slice a' n' c')∧w'.cell? ⟨w.heap.size+1,2,none⟩=some (.slice b' m' d')) (first | exact pSn | exact pSb _ _ _)
    (first
    | (go_at_call 89;(first
      | (have pm1:=pM1;refine (gj_ nb a' n' c' la' ax nx cx _ _ HA'.out RX.out (by omega) (by omega)).mono ?_;rintro e wp2 ⟨a2,n2,c2,rfl,h2,b⟩;replace HB:=bt_ HB b;replace HX:=bl_ HX b;replace HY:=bl_ HY b;replace HR:=bl_ HR b;replace HA:=HA.l_ b;replace HC:=HC.l_ b;replace HA':=HA'.l_ b;replace HC':=HC'.l_ b;replace RX:=RX.l_ b;replace RY:=RY.l_ b;replace R1:=R1.l_ b;rw[HS2.out] at h2 ⊢;have R2:=hd_ h2;have ln2:=h2.len;clear h2;unfold whV;clear b;clear pSn;have pSn:=a7_ HX.out HY.out;clear pM1 pm1;have pM2:=True.intro)
      | (refine (gj_ na a n cap la ay ny cy _ _ HA.out RY.out (by omega) (by omega)).mono ?_;rintro e wp1 ⟨a1,n1,c1,rfl,h1,b⟩;replace HB:=bt_ HB b;replace HX:=bl_ HX b;replace HY:=bl_ HY b;replace HR:=bl_ HR b;replace HA:=HA.l_ b;replace HC:=HC.l_ b;replace HA':=HA'.l_ b;replace HC':=HC'.l_ b;replace RX:=RX.l_ b;replace RY:=RY.l_ b;rw[HS1.out] at h1 ⊢;have R1:=hd_ h1;have ln1:=h1.len;clear h1;unfold whV;clear b;clear pSn;have pSn:=a7_ HX.out HY.out;have pM1:=True.intro)))
    | (go_at_call 88;(first
      | (have pm2:=pM2;refine (whole_add _ a1 n1 c1 _ _ a2 n2 c2 _ _ R1.out R2.out (by omega) (by omega)).mono ?_;rintro e wp3 ⟨a3,n3,c3,rfl,h3,b⟩;replace HB:=bt_ HB b;replace HX:=bl_ HX b;replace HY:=bl_ HY b;replace HR:=bl_ HR b;replace HA:=HA.l_ b;replace HC:=HC.l_ b;replace HA':=HA'.l_ b;replace HC':=HC'.l_ b;replace RX:=RX.l_ b;replace RY:=RY.l_ b;clear R1;clear R2;rw[md_,md_] at h3 ⊢;have R3:=hd_ h3;have ln3:=h3.len;clear h3;unfold whV;clear b;clear pSn;have pSn:=a7_ HX.out HY.out;clear pM2 pm2;have pM3:=True.intro)))
    | (go_at_call 90;(first
      | (have pm3:=pM3;refine (l4_ b m cap' lb ay ny cy _ _ HC.out RY.out (by omega) (by omega)).mono ?_;rintro e wp4 ⟨b4,m4,d4,rfl,h4,b⟩;replace HB:=bt_ HB b;replace HX:=bl_ HX b;replace HY:=bl_ HY b;replace HR:=bl_ HR b;replace HA:=HA.l_ b;replace HC:=HC.l_ b;replace HA':=HA'.l_ b;replace HC':=HC'.l_ b;replace RX:=RX.l_ b;replace RY:=RY.l_ b;replace R3:=R3.l_ b;rw[HD.out] at h4;have R4:=hd_ h4;have ln4:=h4.len;clear h4;clear b;clear pSn;have pSn:=a7_ HX.out HY.out;clear pM3 pm3;have pM4:=True.intro)))
    | (go_at_call 86;(first
      | (have pm4:=pM4;refine (hj_ _ a3 n3 c3 _ b4 m4 d4 _ _ R3.out R4.out (by omega) (by omega)).mono ?_;rintro e wp5 ⟨a5,n5,c5,b5,m5,d5,rfl,h5,g5,b⟩;replace HB:=bt_ HB b;replace HX:=bl_ HX b;replace HY:=bl_ HY b;replace HR:=bl_ HR b;replace HA:=HA.l_ b;replace HC:=HC.l_ b;replace HA':=HA'.l_ b;replace HC':=HC'.l_ b;replace RX:=RX.l_ b;replace RY:=RY.l_ b;clear R3;clear R4;rw[HZ2.out] at h5 g5 ⊢;have R5:=hd_ h5;have T5:=hd_ g5;clear h5 g5;obtain⟨r0,r1,r2⟩:=av_ HR.out;have f0:=ah_ HR.out 0;have f1:=ah_ HR.out 1;have f2:=ah_ HR.out 2;have pSb:=fun u v q=>a7_ (bz_ (g:=w.heap.size+1+1) HX.out (by omega) u v q) (bz_ (g:=w.heap.size+1+1) HY.out (by omega) u v q);unfold frV;clear b;clear pSn;have pSn:=a7_ HX.out HY.out;clear pM4 pm4;have pM5:=True.intro))))
   have HG:=hd_ (bu_ HR.out (.bool (zneg q.num)) (.slice a5 n5 c5) (.slice b5 m5 d5))
   have HL:=hd_ (a3_ HB.out (show w.heap.size≤w.heap.size+1+1 by omega) (.bool (zneg q.num)) (.slice a5 n5 c5) (.slice b5 m5 d5))
   have HW1:=hd_ (R5.out.stored3 HR.out (zneg q.num) a5 n5 c5 (.slice b5 m5 d5))
   have HW2:=hd_ (T5.out.stored3 HR.out (zneg q.num) a5 n5 c5 (.slice b5 m5 d5))
   go_wp2
   refine bodyPost_ret (results_cell_row Tryz.results41 _ _ (w.heap.size+1+1) 44 #[.bool (zneg q.num),.slice a5 n5 c5,.slice b5 m5 d5] (0,0) _ rfl HG.out Tryz.underlying44 rfl (by kernel_rfl)) rfl ?_
   exact⟨a5,n5,c5,b5,m5,d5,rfl,HW1.out,HW2.out,HL.out⟩
theorem frac_sub(na:Bool)(a:OA_)(n cap:Nat)(la:List Nat)(b:OA_)(m cap':Nat)(lb:List Nat)(nb:Bool)(a':OA_)(n' c':Nat)(la':List Nat)(b':OA_)(m' d':Nat)(lb':List Nat)(w:World)(ha:Wd w a n cap la)(hb:Wd w b m cap' lb)(ha':Wd w a' n' c' la')(hb':Wd w b' m' d' lb')(hn:n≤9437184000)(hm:m≤9437184000)(hn':n'≤9437184000)(hm':m'≤9437184000) :
 Calls Tryz.prog 42 #[frV na a n cap b m cap',frV nb a' n' c' b' m' d'] w (LstQ (qval na (val la) (val lb) - qval nb (val la') (val lb')) w):=by
 have HB:=hd_ (ab_ (ab_ (aa_ w (.cells #[.bool na,.slice a n cap,.slice b m cap'] 44)) (aa_ _ (.cells #[.bool nb,.slice a' n' c',.slice b' m' d'] 44))) (aa_ _ (.cells #[.bool false,.slice none 0 0,.slice none 0 0] 44)))
 have HA:=hd_ (ha.later HB.out)
 have HC:=hd_ (hb.later HB.out)
 have HA':=hd_ (ha'.later HB.out)
 have HC':=hd_ (hb'.later HB.out)
 obtain⟨hx1,hx2,hx3⟩:=e9_ w #[.bool na,.slice a n cap,.slice b m cap'] #[.bool nb,.slice a' n' c',.slice b' m' d'] #[.bool false,.slice none 0 0,.slice none 0 0] 44 44 44
 have HX:=hd_ hx1
 have HY:=hd_ hx2
 have HR:=hd_ hx3
 have ta:=ha.trim_le
 have tb:=hb.trim_le
 have ta':=ha'.trim_le
 have tb':=hb'.trim_le
 clear ha hb ha' hb' hx1 hx2 hx3
 obtain⟨q,hq⟩:∃q,qval na (val la) (val lb) - qval nb (val la') (val lb')=q:=⟨_,rfl⟩
 rw[hq]
 have HQ:=hd_ hq
 clear hq
 have HT:Hid (qval na (val la) (val lb)+qval (!nb) (val la') (val lb')=q):=hd_ (by rw[pd_,←Rat.sub_eq_add_neg,HQ.out])
 go_enter Tryz.func42,Tryz.ntmps42
 unfold frV
 go_wp2
 generalize (((w.alloc (.cells #[.bool na,.slice a n cap,.slice b m cap'] 44)).alloc (.cells #[.bool nb,.slice a' n' c',.slice b' m' d'] 44)).alloc (.cells #[.bool false,.slice none 0 0,.slice none 0 0] 44))=W at *
 replace HB:=bt_ HB (dw_ W)
 replace HX:Hid (W.drew.heap[w.heap.size]? = _):=hd_ HX.out
 replace HY:Hid (W.drew.heap[w.heap.size+1]? = _):=hd_ HY.out
 replace HR:Hid (W.drew.heap[w.heap.size+1+1]? = some (.cells #[.bool false,.slice none 0 0,.slice none 0 0] 44 (0,0))):=hd_ HR.out
 replace HA:=HA.l_ (dw_ W)
 replace HC:=HC.l_ (dw_ W)
 replace HA':=HA'.l_ (dw_ W)
 replace HC':=HC'.l_ (dw_ W)
 have pSn:=a7_ HX.out HY.out
 go_region_held3 (fun w'=>w'.cell? ⟨w.heap.size,0,none⟩=some (.bool na)∧w'.cell? ⟨w.heap.size,1,none⟩=some (.slice a n cap)∧w'.cell? ⟨w.heap.size,2,none⟩=some (.slice b m cap')∧w'.cell? ⟨w.heap.size+1,0,none⟩=some (.bool nb)∧w'.cell? ⟨w.heap.size+1,1,none⟩=some (.slice a' n' c')∧w'.cell? ⟨w.heap.size+1,2,none⟩=some (.slice b' m' d')) (first | exact pSn | exact pSb _ _ _)
  (first
  | (go_at_call 91;(first
    | (refine (pi_ nb a' n' c' b' m' d' _).mono ?_;rintro e wp1 ⟨rfl,b⟩;replace HB:=bt_ HB b;replace HX:=bl_ HX b;replace HY:=bl_ HY b;replace HR:=bl_ HR b;replace HA:=HA.l_ b;replace HC:=HC.l_ b;replace HA':=HA'.l_ b;replace HC':=HC'.l_ b;unfold frV;clear b;clear pSn;have pSn:=a7_ HX.out HY.out;have pM1:=True.intro)))
  | (go_at_call 41;(first
    | (have pm1:=pM1;refine (qn_ na a n cap la b m cap' lb (!nb) a' n' c' la' b' m' d' lb' _ HA.out HC.out HA'.out HC'.out hn hm hn' hm').mono ?_;rintro e wp2 ⟨a1,n1,c1,b1,m1,d1,rfl,h1,g1,b⟩;replace HB:=bt_ HB b;replace HX:=bl_ HX b;replace HY:=bl_ HY b;replace HR:=bl_ HR b;replace HA:=HA.l_ b;replace HC:=HC.l_ b;replace HA':=HA'.l_ b;replace HC':=HC'.l_ b;rw[HT.out] at h1 g1 ⊢;have R1:=hd_ h1;have T1:=hd_ g1;clear h1 g1;obtain⟨r0,r1,r2⟩:=av_ HR.out;have f0:=ah_ HR.out 0;have f1:=ah_ HR.out 1;have f2:=ah_ HR.out 2;have pSb:=fun u v q=>a7_ (bz_ (g:=w.heap.size+1+1) HX.out (by omega) u v q) (bz_ (g:=w.heap.size+1+1) HY.out (by omega) u v q);unfold frV;clear b;clear pSn;have pSn:=a7_ HX.out HY.out;clear pM1 pm1;have pM2:=True.intro))))
 have HG:=hd_ (bu_ HR.out (.bool (zneg q.num)) (.slice a1 n1 c1) (.slice b1 m1 d1))
 have HL:=hd_ (a3_ HB.out (show w.heap.size≤w.heap.size+1+1 by omega) (.bool (zneg q.num)) (.slice a1 n1 c1) (.slice b1 m1 d1))
 have HW1:=hd_ (R1.out.stored3 HR.out (zneg q.num) a1 n1 c1 (.slice b1 m1 d1))
 have HW2:=hd_ (T1.out.stored3 HR.out (zneg q.num) a1 n1 c1 (.slice b1 m1 d1))
 go_wp2
 refine bodyPost_ret (results_cell_row Tryz.results42 _ _ (w.heap.size+1+1) 44 #[.bool (zneg q.num),.slice a1 n1 c1,.slice b1 m1 d1] (0,0) _ rfl HG.out Tryz.underlying44 rfl (by kernel_rfl)) rfl ?_
 exact⟨a1,n1,c1,b1,m1,d1,rfl,HW1.out,HW2.out,HL.out⟩
theorem fracSaid:FracSaid where
 of:=fun z w hz=>eg_ z w hz
 ratio:=fun x y w hx hy=>rb_ x y w hx hy
 sign:=fun v q w h=>by
  obtain⟨neg,a,n,cap,la,b,m,cap',lb,rfl,ha,hb,hn,hm,rfl⟩:=h
  exact fg_ neg a n cap la b m cap' lb w ha hb (by omega) (by omega)
 same:=fun v u p q w h k=>by
  obtain⟨na,a,n,cap,la,b,m,cap',lb,rfl,ha,hb,hn,hm,rfl⟩:=h
  obtain⟨nb,a',n',c',la',b',m',d',lb',rfl,ha',hb',hn',hm',rfl⟩:=k
  exact frac_same na a n cap la b m cap' lb nb a' n' c' la' b' m' d' lb' w ha hb ha' hb' (by omega) (by omega) (by omega) (by omega)
 add:=fun v u p q w h k=>by
  obtain⟨na,a,n,cap,la,b,m,cap',lb,rfl,ha,hb,hn,hm,rfl⟩:=h
  obtain⟨nb,a',n',c',la',b',m',d',lb',rfl,ha',hb',hn',hm',rfl⟩:=k
  exact qn_ na a n cap la b m cap' lb nb a' n' c' la' b' m' d' lb' w ha hb ha' hb' (by omega) (by omega) (by omega) (by omega)
 sub:=fun v u p q w h k=>by
  obtain⟨na,a,n,cap,la,b,m,cap',lb,rfl,ha,hb,hn,hm,rfl⟩:=h
  obtain⟨nb,a',n',c',la',b',m',d',lb',rfl,ha',hb',hn',hm',rfl⟩:=k
  exact frac_sub na a n cap la b m cap' lb nb a' n' c' la' b' m' d' lb' w ha hb ha' hb' (by omega) (by omega) (by omega) (by omega)
 mul:=fun v u p q w h k=>by
  obtain⟨na,a,n,cap,la,b,m,cap',lb,rfl,ha,hb,hn,hm,rfl⟩:=h
  obtain⟨nb,a',n',c',la',b',m',d',lb',rfl,ha',hb',hn',hm',rfl⟩:=k
  exact qs_ na a n cap la b m cap' lb nb a' n' c' la' b' m' d' lb' w ha hb ha' hb' (by omega) (by omega) (by omega) (by omega)
 quo:=fun v u p q w h k=>by
  obtain⟨na,a,n,cap,la,b,m,cap',lb,rfl,ha,hb,hn,hm,rfl⟩:=h
  obtain⟨nb,a',n',c',la',b',m',d',lb',rfl,ha',hb',hn',hm',rfl⟩:=k
  exact pw_ na a n cap la b m cap' lb nb a' n' c' la' b' m' d' lb' w ha hb ha' hb' (by omega) (by omega) (by omega) (by omega)

theorem dn_:(Tryz.prog.info? 44).map (fun i=>(i.zero,i.size,i.bytes))=some (some (.agg #[.bool false,.slice none 0 0,.slice none 0 0]),3,56):=by kernel_rfl
end Go.Proofs.YtocebjbjnfammaaGreat
