import Derived.Test.YtocebjbjnfammaaGreatSG4
import Derived.Deep.RegionHeld3
import Derived.Test.YtocebjbjnfammaaGreatSG3
import Derived.Deep.RegionWith
import Derived.Deep.CutRange
import Derived.Test.YtocebjbjnfammaaGreatSG2
import Derived.Deep.Slices
import Derived.Test.YtocebjbjnfammaaGreatSG1
set_option maxRecDepth 4096
set_option maxHeartbeats 16000000
namespace Go.Proofs.YtocebjbjnfammaaGreat
open Go.RowKit
theorem t1_(na nb:Bool)(u v x y:Nat):qval (!(na == nb)) (u * x) (v * y)=qval na u v * qval nb x y:=by
 unfold qval
 rw[Rat.mkRat_mul_mkRat,t3_]
theorem bw_{w:World}{A g:Nat}{o:Obj}(h:w.heap[A]? = some o)(hne:A≠g)(u v q:Value):(((w.setCell ⟨g,0,none⟩ u).setCell ⟨g,1,none⟩ v).setCell ⟨g,2,none⟩ q).heap[A]? = some o:=
 ci_ (ci_ (ci_ h hne 0 u) hne 1 v) hne 2 q
theorem em_(w:World)(x y z:Array Value)(t s r:TypeId) :
 (((w.alloc (.cells x t)).alloc (.cells y s)).alloc (.cells z r)).heap[w.heap.size]? = some (.cells x t (0,0))∧(((w.alloc (.cells x t)).alloc (.cells y s)).alloc (.cells z r)).heap[w.heap.size+1]? = some (.cells y s (0,0))∧(((w.alloc (.cells x t)).alloc (.cells y s)).alloc (.cells z r)).heap[w.heap.size+1+1]? = some (.cells z r (0,0)):=it_ w x y z t s r
theorem ref09_mul(na:Bool)(a:OA_)(n cap:Nat)(la:List Nat)(b:OA_)(m cap':Nat)(lb:List Nat)(nb:Bool)(a':OA_)(n' c':Nat)(la':List Nat)(b':OA_)(m' d':Nat)(lb':List Nat)(w:World)(ha:Wd w a n cap la)(hb:Wd w b m cap' lb)(ha':Wd w a' n' c' la')(hb':Wd w b' m' d' lb')(hn:n≤41943040000)(hm:m≤41943040000)(hn':n'≤41943040000)(hm':m'≤41943040000) :
 Calls Tryz.prog 114 #[frV na a n cap b m cap',frV nb a' n' c' b' m' d'] w (LstQ (qval na (val la) (val lb) * qval nb (val la') (val lb')) w):=by
 have HB:=hd_ (ab_ (ab_ (aa_ w (.cells #[.bool na,.slice a n cap,.slice b m cap'] 27)) (aa_ _ (.cells #[.bool nb,.slice a' n' c',.slice b' m' d'] 27))) (aa_ _ (.cells #[.bool false,.slice none 0 0,.slice none 0 0] 27)))
 have HA:=hd_ (ha.later HB.out)
 have HC:=hd_ (hb.later HB.out)
 have HA':=hd_ (ha'.later HB.out)
 have HC':=hd_ (hb'.later HB.out)
 obtain⟨hx1,hx2,hx3⟩:=em_ w #[.bool na,.slice a n cap,.slice b m cap'] #[.bool nb,.slice a' n' c',.slice b' m' d'] #[.bool false,.slice none 0 0,.slice none 0 0] 27 27 27
 have HX:=hd_ hx1
 have HY:=hd_ hx2
 have HR:=hd_ hx3
 have ha1:=ha.trim_le
 have hb1:=hb.trim_le
 have ha2:=ha'.trim_le
 have hb2:=hb'.trim_le
 have hW1:w.heap.size+1+1 < (((w.alloc (.cells #[.bool na,.slice a n cap,.slice b m cap'] 27)).alloc (.cells #[.bool nb,.slice a' n' c',.slice b' m' d'] 27)).alloc (.cells #[.bool false,.slice none 0 0,.slice none 0 0] 27)).heap.size:=(Array.getElem?_eq_some_iff.1 hx3).1
 clear ha hb ha' hb' hx1 hx2 hx3
 have zl1:=bp_ (val la) (val la')
 have zl2:=bp_ (val lb) (val lb')
 have HV1:Hid (val (dg (val la * val la'))=val la * val la'):=hd_ (a1_ _)
 have HV2:Hid (val (dg (val lb * val lb'))=val lb * val lb'):=hd_ (a1_ _)
 go_enter Tryz.func114,Tryz.ntmps114
 unfold frV
 go_wp2
 generalize (((w.alloc (.cells #[.bool na,.slice a n cap,.slice b m cap'] 27)).alloc (.cells #[.bool nb,.slice a' n' c',.slice b' m' d'] 27)).alloc (.cells #[.bool false,.slice none 0 0,.slice none 0 0] 27))=W at *
 replace HB:=bt_ HB (dw_ W)
 replace HX:Hid (W.drew.heap[w.heap.size]? = _):=hd_ HX.out
 replace HY:Hid (W.drew.heap[w.heap.size+1]? = _):=hd_ HY.out
 replace HR:Hid (W.drew.heap[w.heap.size+1+1]? = some (.cells #[.bool false,.slice none 0 0,.slice none 0 0] 27 (0,0))):=hd_ HR.out
 replace HA:=HA.l_ (dw_ W)
 replace HC:=HC.l_ (dw_ W)
 replace HA':=HA'.l_ (dw_ W)
 replace HC':=HC'.l_ (dw_ W)
 have pSn:=bg_ HX.out HY.out
 go_region_held3 (fun w'=>w'.cell? ⟨w.heap.size,0,none⟩=some (.bool na)∧w'.cell? ⟨w.heap.size,1,none⟩=some (.slice a n cap)∧w'.cell? ⟨w.heap.size,2,none⟩=some (.slice b m cap')∧w'.cell? ⟨w.heap.size+1,0,none⟩=some (.bool nb)∧w'.cell? ⟨w.heap.size+1,1,none⟩=some (.slice a' n' c')∧w'.cell? ⟨w.heap.size+1,2,none⟩=some (.slice b' m' d')) (first | exact pSn | exact pSb _ _ _)
  (first
  | (go_at_call 99;(first
    | (have pm1:=pM1;refine (fd_ b m cap' lb b' m' d' lb' _ HC.out HC'.out (by omega) (by omega)).mono ?_;rintro e wp2 ⟨a2,n2,c2,rfl,h2,b⟩;replace HB:=bt_ HB b;replace HX:=bl_ HX b;replace HY:=bl_ HY b;replace HR:=bl_ HR b;replace HA:=HA.l_ b;replace HC:=HC.l_ b;replace HA':=HA'.l_ b;replace HC':=HC'.l_ b;replace R1:=R1.l_ b;have R2:=hd_ h2;have hn2:n2≤94371840000:=(by have:=h2.len;omega);clear h2;clear b;clear pSn;have pSn:=bg_ HX.out HY.out;clear pM1 pm1;have pM2:=True.intro)
    | (refine (fd_ a n cap la a' n' c' la' _ HA.out HA'.out (by omega) (by omega)).mono ?_;rintro e wp1 ⟨a1,n1,c1,rfl,h1,b⟩;replace HB:=bt_ HB b;replace HX:=bl_ HX b;replace HY:=bl_ HY b;replace HR:=bl_ HR b;replace HA:=HA.l_ b;replace HC:=HC.l_ b;replace HA':=HA'.l_ b;replace HC':=HC'.l_ b;have R1:=hd_ h1;have hn1:n1≤94371840000:=(by have:=h1.len;omega);clear h1;clear b;clear pSn;have pSn:=bg_ HX.out HY.out;have pM1:=True.intro)))
  | (go_at_call 11;(first
    | (have pm2:=pM2;refine (ft_ _ a1 n1 c1 _ a2 n2 c2 _ _ R1.out R2.out (by omega) (by omega)).mono ?_;rintro e wp3 ⟨a3,n3,c3,a4,n4,c4,rfl,h3,h4,b⟩;replace HB:=bt_ HB b;replace HX:=bl_ HX b;replace HY:=bl_ HY b;replace HR:=bl_ HR b;replace HA:=HA.l_ b;replace HC:=HC.l_ b;replace HA':=HA'.l_ b;replace HC':=HC'.l_ b;clear R1;clear R2;have R3:=hd_ h3;have R4:=hd_ h4;clear h3 h4;obtain⟨r0,r1,r2⟩:=g0_ HR.out;have f0:=ad_ HR.out 0;have f1:=ad_ HR.out 1;have f2:=ad_ HR.out 2;have pSb:=fun u v q=>bg_ (bw_ (g:=w.heap.size+1+1) HX.out (by omega) u v q) (bw_ (g:=w.heap.size+1+1) HY.out (by omega) u v q);unfold frV;clear b;clear pSn;have pSn:=bg_ HX.out HY.out;clear pM2 pm2;have pM3:=True.intro))))
 have HQ:Hid (qval (!(na == nb)) (val (dg (val la * val la'))) (val (dg (val lb * val lb')))=qval na (val la) (val lb) * qval nb (val la') (val lb')):=hd_ (by rw[HV1.out,HV2.out];exact t1_ _ _ _ _ _ _)
 rw[HQ.out] at R3 R4
 rw[HQ.out]
 generalize qval na (val la) (val lb) * qval nb (val la') (val lb')=q at *
 have HG:=hd_ (bm_ HR.out (.bool (zneg q.num)) (.slice a3 n3 c3) (.slice a4 n4 c4))
 have HL:=hd_ (az_ HB.out (show w.heap.size≤w.heap.size+1+1 by omega) (.bool (zneg q.num)) (.slice a3 n3 c3) (.slice a4 n4 c4))
 have HW1:=hd_ (R3.out.stored3 HR.out (zneg q.num) a3 n3 c3 (.slice a4 n4 c4))
 have HW2:=hd_ (R4.out.stored3 HR.out (zneg q.num) a3 n3 c3 (.slice a4 n4 c4))
 go_wp2
 refine bodyPost_ret (results_cell_row Tryz.results114 _ _ (w.heap.size+1+1) 27 #[.bool (zneg q.num),.slice a3 n3 c3,.slice a4 n4 c4] (0,0) _ rfl HG.out Tryz.underlying27 rfl (by kernel_rfl)) rfl ?_
 exact⟨_,_,_,_,_,_,rfl,HW1.out,HW2.out,HL.out⟩
theorem ref09_quo(na:Bool)(a:OA_)(n cap:Nat)(la:List Nat)(b:OA_)(m cap':Nat)(lb:List Nat)(nb:Bool)(a':OA_)(n' c':Nat)(la':List Nat)(b':OA_)(m' d':Nat)(lb':List Nat)(w:World)(ha:Wd w a n cap la)(hb:Wd w b m cap' lb)(ha':Wd w a' n' c' la')(hb':Wd w b' m' d' lb')(hn:n≤41943040000)(hm:m≤41943040000)(hn':n'≤41943040000)(hm':m'≤41943040000) :
 Calls Tryz.prog 54 #[frV na a n cap b m cap',frV nb a' n' c' b' m' d'] w (LstQ (qval na (val la) (val lb) * qval nb (val lb') (val la')) w):=by
 have HB:=hd_ (ab_ (ab_ (aa_ w (.cells #[.bool na,.slice a n cap,.slice b m cap'] 27)) (aa_ _ (.cells #[.bool nb,.slice a' n' c',.slice b' m' d'] 27))) (aa_ _ (.cells #[.bool false,.slice none 0 0,.slice none 0 0] 27)))
 have HA:=hd_ (ha.later HB.out)
 have HC:=hd_ (hb.later HB.out)
 have HA':=hd_ (ha'.later HB.out)
 have HC':=hd_ (hb'.later HB.out)
 obtain⟨hx1,hx2,hx3⟩:=em_ w #[.bool na,.slice a n cap,.slice b m cap'] #[.bool nb,.slice a' n' c',.slice b' m' d'] #[.bool false,.slice none 0 0,.slice none 0 0] 27 27 27
 have HX:=hd_ hx1
 have HY:=hd_ hx2
 have HR:=hd_ hx3
 have ha1:=ha.trim_le
 have hb1:=hb.trim_le
 have ha2:=ha'.trim_le
 have hb2:=hb'.trim_le
 have hW1:w.heap.size+1+1 < (((w.alloc (.cells #[.bool na,.slice a n cap,.slice b m cap'] 27)).alloc (.cells #[.bool nb,.slice a' n' c',.slice b' m' d'] 27)).alloc (.cells #[.bool false,.slice none 0 0,.slice none 0 0] 27)).heap.size:=(Array.getElem?_eq_some_iff.1 hx3).1
 clear ha hb ha' hb' hx1 hx2 hx3
 have zl1:=bp_ (val la) (val lb')
 have zl2:=bp_ (val lb) (val la')
 have HV1:Hid (val (dg (val la * val lb'))=val la * val lb'):=hd_ (a1_ _)
 have HV2:Hid (val (dg (val lb * val la'))=val lb * val la'):=hd_ (a1_ _)
 go_enter Tryz.func54,Tryz.ntmps54
 unfold frV
 go_wp2
 generalize (((w.alloc (.cells #[.bool na,.slice a n cap,.slice b m cap'] 27)).alloc (.cells #[.bool nb,.slice a' n' c',.slice b' m' d'] 27)).alloc (.cells #[.bool false,.slice none 0 0,.slice none 0 0] 27))=W at *
 replace HB:=bt_ HB (dw_ W)
 replace HX:Hid (W.drew.heap[w.heap.size]? = _):=hd_ HX.out
 replace HY:Hid (W.drew.heap[w.heap.size+1]? = _):=hd_ HY.out
 replace HR:Hid (W.drew.heap[w.heap.size+1+1]? = some (.cells #[.bool false,.slice none 0 0,.slice none 0 0] 27 (0,0))):=hd_ HR.out
 replace HA:=HA.l_ (dw_ W)
 replace HC:=HC.l_ (dw_ W)
 replace HA':=HA'.l_ (dw_ W)
 replace HC':=HC'.l_ (dw_ W)
 have pSn:=bg_ HX.out HY.out
 go_region_held3 (fun w'=>w'.cell? ⟨w.heap.size,0,none⟩=some (.bool na)∧w'.cell? ⟨w.heap.size,1,none⟩=some (.slice a n cap)∧w'.cell? ⟨w.heap.size,2,none⟩=some (.slice b m cap')∧w'.cell? ⟨w.heap.size+1,0,none⟩=some (.bool nb)∧w'.cell? ⟨w.heap.size+1,1,none⟩=some (.slice a' n' c')∧w'.cell? ⟨w.heap.size+1,2,none⟩=some (.slice b' m' d')) (first | exact pSn | exact pSb _ _ _)
  (first
  | (go_at_call 99;(first
    | (have pm1:=pM1;refine (fd_ b m cap' lb a' n' c' la' _ HC.out HA'.out (by omega) (by omega)).mono ?_;rintro e wp2 ⟨a2,n2,c2,rfl,h2,b⟩;replace HB:=bt_ HB b;replace HX:=bl_ HX b;replace HY:=bl_ HY b;replace HR:=bl_ HR b;replace HA:=HA.l_ b;replace HC:=HC.l_ b;replace HA':=HA'.l_ b;replace HC':=HC'.l_ b;replace R1:=R1.l_ b;have R2:=hd_ h2;have hn2:n2≤94371840000:=(by have:=h2.len;omega);clear h2;clear b;clear pSn;have pSn:=bg_ HX.out HY.out;clear pM1 pm1;have pM2:=True.intro)
    | (refine (fd_ a n cap la b' m' d' lb' _ HA.out HC'.out (by omega) (by omega)).mono ?_;rintro e wp1 ⟨a1,n1,c1,rfl,h1,b⟩;replace HB:=bt_ HB b;replace HX:=bl_ HX b;replace HY:=bl_ HY b;replace HR:=bl_ HR b;replace HA:=HA.l_ b;replace HC:=HC.l_ b;replace HA':=HA'.l_ b;replace HC':=HC'.l_ b;have R1:=hd_ h1;have hn1:n1≤94371840000:=(by have:=h1.len;omega);clear h1;clear b;clear pSn;have pSn:=bg_ HX.out HY.out;have pM1:=True.intro)))
  | (go_at_call 11;(first
    | (have pm2:=pM2;refine (ft_ _ a1 n1 c1 _ a2 n2 c2 _ _ R1.out R2.out (by omega) (by omega)).mono ?_;rintro e wp3 ⟨a3,n3,c3,a4,n4,c4,rfl,h3,h4,b⟩;replace HB:=bt_ HB b;replace HX:=bl_ HX b;replace HY:=bl_ HY b;replace HR:=bl_ HR b;replace HA:=HA.l_ b;replace HC:=HC.l_ b;replace HA':=HA'.l_ b;replace HC':=HC'.l_ b;clear R1;clear R2;have R3:=hd_ h3;have R4:=hd_ h4;clear h3 h4;obtain⟨r0,r1,r2⟩:=g0_ HR.out;have f0:=ad_ HR.out 0;have f1:=ad_ HR.out 1;have f2:=ad_ HR.out 2;have pSb:=fun u v q=>bg_ (bw_ (g:=w.heap.size+1+1) HX.out (by omega) u v q) (bw_ (g:=w.heap.size+1+1) HY.out (by omega) u v q);unfold frV;clear b;clear pSn;have pSn:=bg_ HX.out HY.out;clear pM2 pm2;have pM3:=True.intro))))
 have HQ:Hid (qval (!(na == nb)) (val (dg (val la * val lb'))) (val (dg (val lb * val la')))=qval na (val la) (val lb) * qval nb (val lb') (val la')):=hd_ (by rw[HV1.out,HV2.out];exact t1_ _ _ _ _ _ _)
 rw[HQ.out] at R3 R4
 rw[HQ.out]
 generalize qval na (val la) (val lb) * qval nb (val lb') (val la')=q at *
 have HG:=hd_ (bm_ HR.out (.bool (zneg q.num)) (.slice a3 n3 c3) (.slice a4 n4 c4))
 have HL:=hd_ (az_ HB.out (show w.heap.size≤w.heap.size+1+1 by omega) (.bool (zneg q.num)) (.slice a3 n3 c3) (.slice a4 n4 c4))
 have HW1:=hd_ (R3.out.stored3 HR.out (zneg q.num) a3 n3 c3 (.slice a4 n4 c4))
 have HW2:=hd_ (R4.out.stored3 HR.out (zneg q.num) a3 n3 c3 (.slice a4 n4 c4))
 go_wp2
 refine bodyPost_ret (results_cell_row Tryz.results54 _ _ (w.heap.size+1+1) 27 #[.bool (zneg q.num),.slice a3 n3 c3,.slice a4 n4 c4] (0,0) _ rfl HG.out Tryz.underlying27 rfl (by kernel_rfl)) rfl ?_
 exact⟨_,_,_,_,_,_,rfl,HW1.out,HW2.out,HL.out⟩
theorem ref08_add(na:Bool)(a:OA_)(n cap:Nat)(la:List Nat)(nb:Bool)(b:OA_)(m cap':Nat)(lb:List Nat)(w:World)(ha:Wd w a n cap la)(hb:Wd w b m cap' lb)(hn:n≤104857600000)(hm:m≤104857600000) :
 Calls Tryz.prog 143 #[whV na a n cap,whV nb b m cap'] w (LstZ (zval na (val la)+zval nb (val lb)) w):=by
 have hB3:Below w.heap.size w (((w.alloc (.cells #[.bool na,.slice a n cap] 143)).alloc (.cells #[.bool nb,.slice b m cap'] 143)).alloc (.cells #[.bool false,.slice none 0 0] 143)):=ab_ (ab_ (aa_ _ _) (aa_ _ _)) (aa_ _ _)
 have Ha:=ha.l_ hB3
 have Hb:=hb.l_ hB3
 have HB:=hd_ hB3
 have hpl0:(dg (val la+val lb)).length≤209715200001:=by
  have h1:=ep_ (val la) (val lb)
  have h2:=ha.trim_le
  have h3:=hb.trim_le
  omega
 have hpl1:(dg (val la - val lb)).length≤209715200001:=Nat.le_trans (aw_ (by omega)) hpl0
 have hpl2:(dg (val lb - val la)).length≤209715200001:=Nat.le_trans (aw_ (by omega)) hpl0
 have h3b:=it_ w #[.bool na,.slice a n cap] #[.bool nb,.slice b m cap'] #[.bool false,.slice none 0 0] 143 143 143
 have hA:=hd_ h3b.1
 have hBb:=hd_ h3b.2.1
 have hR:=hd_ h3b.2.2
 clear ha hb hB3 h3b
 by_cases hne:na=nb
 ·subst hne
  have hpl:=hd_ hpl0
  have hq:(na == na)=true:=by simp
  clear hpl0 hpl1 hpl2
  go_enter Tryz.func143,Tryz.ntmps143
  unfold whV
  go_wp2
  generalize ((w.alloc (.cells #[.bool na,.slice a n cap] 143)).alloc (.cells #[.bool na,.slice b m cap'] 143)).alloc (.cells #[.bool false,.slice none 0 0] 143)=W at *
  have hAd:W.drew.heap[w.heap.size]? = some (.cells #[.bool na,.slice a n cap] 143 (0,0)):=hA.out
  have hBd:W.drew.heap[w.heap.size+1]? = some (.cells #[.bool na,.slice b m cap'] 143 (0,0)):=hBb.out
  have hRd:W.drew.heap[w.heap.size+1+1]? = some (.cells #[.bool false,.slice none 0 0] 143 (0,0)):=hR.out
  have Hd:Below W.heap.size W W.drew:=(Below.refl _ _).drew
  have Sd:=bx_ hAd hBd
  have HAd:=hd_ hAd
  have HBd:=hd_ hBd
  have HRd:=hd_ hRd
  clear hAd hBd hRd
  go_region_held3 (fun w'=>w'.cell? ⟨w.heap.size,0,none⟩=some (.bool na)∧w'.cell? ⟨w.heap.size,1,none⟩=some (.slice a n cap)∧w'.cell? ⟨w.heap.size+1,0,none⟩=some (.bool na)∧w'.cell? ⟨w.heap.size+1,1,none⟩=some (.slice b m cap')) (first | exact Sd | exact S1 | exact S2 | exact S3 _ _)
   (first
   | (go_at_call 66;(refine (q4_ a n cap la b m cap' lb _ (Ha.out.later Hd) (Hb.out.later Hd) ?q3 ?q4).mono ?_);(case q3=>omega);(case q4=>omega);rintro e w1 ⟨a1,n1,c1,rfl,h1,b1⟩;have hA1:=ac_ HAd.out b1;have hB1:=ac_ HBd.out b1;have S1:=bx_ hA1 hB1)
   | (go_at_call 159;(refine (jv_ _ a1 n1 c1 _ _ h1 ?q5).mono ?_);(case q5=>have h7:=h1.len;have h8:=hpl.out;omega);rintro e w2 ⟨a2,n2,c2,rfl,h2,b2⟩;have S2:=bx_ (ac_ hA1 b2) (ac_ hB1 b2);have S3:=f0_ (g:=w.heap.size+1+1) (ac_ hA1 b2) (ac_ hB1 b2) (by omega) (by omega);have hRb:=ac_ (ac_ HRd.out b1) b2;have r0:=af_ hRb 0;have r1:=af_ hRb 1;have f0:=ad_ hRb 0;have f1:=ad_ hRb 1;simp only[List.getElem?_toArray,List.getElem?_cons_zero,List.getElem?_cons_succ] at r0 r1;unfold whV))
  have H2:=hd_ h2
  have hl2:=hd_ hRb
  have hBe:=hd_ (ab_ HB.out (ab_ Hd (ab_ b1 b2)))
  have HF:=hd_ (H2.out.stored2 hl2.out (zneg (zval na (val (dg (val la+val lb))))) (.slice a2 n2 c2))
  have HG:=hd_ (a4_ hl2.out (.bool (zneg (zval na (val (dg (val la+val lb)))))) (.slice a2 n2 c2))
  have HB2:=hd_ (an_ hBe.out (show w.heap.size≤w.heap.size+1+1 by omega) (.bool (zneg (zval na (val (dg (val la+val lb)))))) (.slice a2 n2 c2))
  have HV:Hid (zval na (val (dg (val la+val lb)))=zval na (val la)+zval na (val lb)):=hd_ (by rw[a1_];exact i3_ na _ _)
  rw[HV.out] at HF HG HB2
  rw[HV.out]
  generalize hzz:zval na (val la)+zval na (val lb)=z at *
  go_wp2
  refine bodyPost_ret (results_cell_row Tryz.results143 _ _ (w.heap.size+1+1) 143 #[.bool (zneg z),.slice a2 n2 c2] (0,0) _ rfl HG.out Tryz.underlying143 rfl (by kernel_rfl)) rfl ?_
  exact⟨a2,n2,c2,rfl,HF.out,HB2.out⟩
 ·have hq:(na == nb)=false:=by simp[hne]
  have Hne:=hd_ hne
  clear hne
  go_enter Tryz.func143,Tryz.ntmps143
  unfold whV
  go_wp2_with fail
  refine (mb_ _ _ _ _ _ _ _ _ _ Ha.out Hb.out (by omega) (by omega)).mono ?_
  rintro e w' ⟨rfl,rfl⟩
  by_cases hlt:val la < val lb
  ·have hc:cmpI (val la) (val lb) < 0:=by rw[f2_ hlt];omega
   have hpl:=hd_ hpl2
   have Hle:Hid (val la≤val lb):=hd_ (by omega)
   have Hlt:=hd_ hlt
   clear hlt hpl0 hpl1 hpl2
   generalize cmpI (val la) (val lb)=cc at *
   go_wp2
   generalize ((w.alloc (.cells #[.bool na,.slice a n cap] 143)).alloc (.cells #[.bool nb,.slice b m cap'] 143)).alloc (.cells #[.bool false,.slice none 0 0] 143)=W at *
   have hAd:W.drew.heap[w.heap.size]? = some (.cells #[.bool na,.slice a n cap] 143 (0,0)):=hA.out
   have hBd:W.drew.heap[w.heap.size+1]? = some (.cells #[.bool nb,.slice b m cap'] 143 (0,0)):=hBb.out
   have hRd:W.drew.heap[w.heap.size+1+1]? = some (.cells #[.bool false,.slice none 0 0] 143 (0,0)):=hR.out
   have Hd:Below W.heap.size W W.drew:=(Below.refl _ _).drew
   have Sd:=bx_ hAd hBd
   have HAd:=hd_ hAd
   have HBd:=hd_ hBd
   have HRd:=hd_ hRd
   clear hAd hBd hRd
   go_region_held3 (fun w'=>w'.cell? ⟨w.heap.size,0,none⟩=some (.bool na)∧w'.cell? ⟨w.heap.size,1,none⟩=some (.slice a n cap)∧w'.cell? ⟨w.heap.size+1,0,none⟩=some (.bool nb)∧w'.cell? ⟨w.heap.size+1,1,none⟩=some (.slice b m cap')) (first | exact Sd | exact S1 | exact S2 | exact S3 _ _)
    (first
    | (go_at_call 160;(refine (qa_ b m cap' lb a n cap la _ (Hb.out.later Hd) (Ha.out.later Hd) ?q3 ?q4 Hle).mono ?_);(case q3=>omega);(case q4=>omega);rintro e w1 ⟨a1,n1,c1,rfl,h1,b1⟩;have hA1:=ac_ HAd.out b1;have hB1:=ac_ HBd.out b1;have S1:=bx_ hA1 hB1)
    | (go_at_call 159;(refine (jv_ _ a1 n1 c1 _ _ h1 ?q5).mono ?_);(case q5=>have h7:=h1.len;have h8:=hpl.out;omega);rintro e w2 ⟨a2,n2,c2,rfl,h2,b2⟩;have S2:=bx_ (ac_ hA1 b2) (ac_ hB1 b2);have S3:=f0_ (g:=w.heap.size+1+1) (ac_ hA1 b2) (ac_ hB1 b2) (by omega) (by omega);have hRb:=ac_ (ac_ HRd.out b1) b2;have r0:=af_ hRb 0;have r1:=af_ hRb 1;have f0:=ad_ hRb 0;have f1:=ad_ hRb 1;simp only[List.getElem?_toArray,List.getElem?_cons_zero,List.getElem?_cons_succ] at r0 r1;unfold whV))
   have H2:=hd_ h2
   have hl2:=hd_ hRb
   have hBe:=hd_ (ab_ HB.out (ab_ Hd (ab_ b1 b2)))
   have HF:=hd_ (H2.out.stored2 hl2.out (zneg (zval nb (val (dg (val lb - val la))))) (.slice a2 n2 c2))
   have HG:=hd_ (a4_ hl2.out (.bool (zneg (zval nb (val (dg (val lb - val la)))))) (.slice a2 n2 c2))
   have HB2:=hd_ (an_ hBe.out (show w.heap.size≤w.heap.size+1+1 by omega) (.bool (zneg (zval nb (val (dg (val lb - val la)))))) (.slice a2 n2 c2))
   have HV:Hid (zval nb (val (dg (val lb - val la)))=zval na (val la)+zval nb (val lb)):=hd_ (by rw[a1_];exact jc_ Hne.out Hlt.out)
   rw[HV.out] at HF HG HB2
   rw[HV.out]
   generalize hzz:zval na (val la)+zval nb (val lb)=z at *
   go_wp2
   refine bodyPost_ret (results_cell_row Tryz.results143 _ _ (w.heap.size+1+1) 143 #[.bool (zneg z),.slice a2 n2 c2] (0,0) _ rfl HG.out Tryz.underlying143 rfl (by kernel_rfl)) rfl ?_
   exact⟨a2,n2,c2,rfl,HF.out,HB2.out⟩
  ·have hc:¬cmpI (val la) (val lb) < 0:=by unfold cmpI;split <;> (try split) <;> omega
   have hpl:=hd_ hpl1
   have Hle:Hid (val lb≤val la):=hd_ (by omega)
   clear hlt hpl0 hpl1 hpl2
   generalize cmpI (val la) (val lb)=cc at *
   go_wp2
   generalize ((w.alloc (.cells #[.bool na,.slice a n cap] 143)).alloc (.cells #[.bool nb,.slice b m cap'] 143)).alloc (.cells #[.bool false,.slice none 0 0] 143)=W at *
   have hAd:W.drew.heap[w.heap.size]? = some (.cells #[.bool na,.slice a n cap] 143 (0,0)):=hA.out
   have hBd:W.drew.heap[w.heap.size+1]? = some (.cells #[.bool nb,.slice b m cap'] 143 (0,0)):=hBb.out
   have hRd:W.drew.heap[w.heap.size+1+1]? = some (.cells #[.bool false,.slice none 0 0] 143 (0,0)):=hR.out
   have Hd:Below W.heap.size W W.drew:=(Below.refl _ _).drew
   have Sd:=bx_ hAd hBd
   have HAd:=hd_ hAd
   have HBd:=hd_ hBd
   have HRd:=hd_ hRd
   clear hAd hBd hRd
   go_region_held3 (fun w'=>w'.cell? ⟨w.heap.size,0,none⟩=some (.bool na)∧w'.cell? ⟨w.heap.size,1,none⟩=some (.slice a n cap)∧w'.cell? ⟨w.heap.size+1,0,none⟩=some (.bool nb)∧w'.cell? ⟨w.heap.size+1,1,none⟩=some (.slice b m cap')) (first | exact Sd | exact S1 | exact S2 | exact S3 _ _)
    (first
    | (go_at_call 160;(refine (qa_ a n cap la b m cap' lb _ (Ha.out.later Hd) (Hb.out.later Hd) ?q3 ?q4 Hle).mono ?_);(case q3=>omega);(case q4=>omega);rintro e w1 ⟨a1,n1,c1,rfl,h1,b1⟩;have hA1:=ac_ HAd.out b1;have hB1:=ac_ HBd.out b1;have S1:=bx_ hA1 hB1)
    | (go_at_call 159;(refine (jv_ _ a1 n1 c1 _ _ h1 ?q5).mono ?_);(case q5=>have h7:=h1.len;have h8:=hpl.out;omega);rintro e w2 ⟨a2,n2,c2,rfl,h2,b2⟩;have S2:=bx_ (ac_ hA1 b2) (ac_ hB1 b2);have S3:=f0_ (g:=w.heap.size+1+1) (ac_ hA1 b2) (ac_ hB1 b2) (by omega) (by omega);have hRb:=ac_ (ac_ HRd.out b1) b2;have r0:=af_ hRb 0;have r1:=af_ hRb 1;have f0:=ad_ hRb 0;have f1:=ad_ hRb 1;simp only[List.getElem?_toArray,List.getElem?_cons_zero,List.getElem?_cons_succ] at r0 r1;unfold whV))
   have H2:=hd_ h2
   have hl2:=hd_ hRb
   have hBe:=hd_ (ab_ HB.out (ab_ Hd (ab_ b1 b2)))
   have HF:=hd_ (H2.out.stored2 hl2.out (zneg (zval na (val (dg (val la - val lb))))) (.slice a2 n2 c2))
   have HG:=hd_ (a4_ hl2.out (.bool (zneg (zval na (val (dg (val la - val lb)))))) (.slice a2 n2 c2))
   have HB2:=hd_ (an_ hBe.out (show w.heap.size≤w.heap.size+1+1 by omega) (.bool (zneg (zval na (val (dg (val la - val lb)))))) (.slice a2 n2 c2))
   have HV:Hid (zval na (val (dg (val la - val lb)))=zval na (val la)+zval nb (val lb)):=hd_ (by rw[a1_];exact jj_ Hne.out Hle.out)
   rw[HV.out] at HF HG HB2
   rw[HV.out]
   generalize hzz:zval na (val la)+zval nb (val lb)=z at *
   go_wp2
   refine bodyPost_ret (results_cell_row Tryz.results143 _ _ (w.heap.size+1+1) 143 #[.bool (zneg z),.slice a2 n2 c2] (0,0) _ rfl HG.out Tryz.underlying143 rfl (by kernel_rfl)) rfl ?_
   exact⟨a2,n2,c2,rfl,HF.out,HB2.out⟩





theorem bb_{P:Program}{fn:Func}{p u:Tmp}{ty:TypeId}(h:fn.results=#[.cell p ty,.tmp u])(tmps:Array Value)(w:World)(g:Nat)(t:TypeId)(cs:Array Value)(fr:Nat × Nat)(d:TypeDesc)
 (hp:tmps.getD p undef=.pointer (some ⟨g,0,none⟩)) (hg:w.heap[g]? = some (.cells cs t fr))
 (hu:P.underlying ty=some d) (hd:(match d with | .struct _ | .array _ _=>true | _=>false)=true) (hi:(P.info? ty).map (·.size)=some cs.size) :
 (results fn tmps).run P w=.ok (.tuple #[.agg cs,tmps.getD u undef]) w:=by
 rw[results_cell_tmp h,hp]
 simp[asAddr,run_loadVar_row w g t ty cs fr d hg hu hd hi]
theorem sz_(na:Bool)(a:OA_)(n cap:Nat)(la:List Nat)(x:Int)(nb:Bool)(b:OA_)(m cap':Nat)(lb:List Nat)(y:Int)(w:World)(ha:Wd w a n cap la)(hb:Wd w b m cap' lb)(hn:n≤104857600000)(hm:m≤104857600000)(hx:zval na (val la)=x)(hy:zval nb (val lb)=y) :
 Calls Tryz.prog 143 #[whV na a n cap,whV nb b m cap'] w (LstZ (x+y) w):=by
 subst hx hy;exact ref08_add na a n cap la nb b m cap' lb w ha hb hn hm
theorem f5_{w:World}{A0 A1 A2:Nat}{c0_0 c0_1 c0_2 c1_0 c1_1 c1_2 c2_0 c2_1:Value}{t0 t1 t2:TypeId}(h0:w.heap[A0]? = some (.cells #[c0_0,c0_1,c0_2] t0 (0,0)))(h1:w.heap[A1]? = some (.cells #[c1_0,c1_1,c1_2] t1 (0,0)))(h2:w.heap[A2]? = some (.cells #[c2_0,c2_1] t2 (0,0))):w.cell? ⟨A0,0,none⟩=some c0_0∧w.cell? ⟨A0,1,none⟩=some c0_1∧w.cell? ⟨A0,2,none⟩=some c0_2∧w.cell? ⟨A1,0,none⟩=some c1_0∧w.cell? ⟨A1,1,none⟩=some c1_1∧w.cell? ⟨A1,2,none⟩=some c1_2∧w.cell? ⟨A2,0,none⟩=some c2_0∧w.cell? ⟨A2,1,none⟩=some c2_1:=⟨af_ h0 0,af_ h0 1,af_ h0 2,af_ h1 0,af_ h1 1,af_ h1 2,af_ h2 0,af_ h2 1⟩
theorem l8_{w:World}{A0 A1 A2 A3 A4:Nat}{c0_0 c0_1 c0_2 c1_0 c1_1 c1_2 c2_0 c2_1 c3_0 c3_1 c4_0 c4_1 c4_2:Value}{t0 t1 t2 t3 t4:TypeId}(h0:w.heap[A0]? = some (.cells #[c0_0,c0_1,c0_2] t0 (0,0)))(h1:w.heap[A1]? = some (.cells #[c1_0,c1_1,c1_2] t1 (0,0)))(h2:w.heap[A2]? = some (.cells #[c2_0,c2_1] t2 (0,0)))(h3:w.heap[A3]? = some (.cells #[c3_0,c3_1] t3 (0,0)))(h4:w.heap[A4]? = some (.cells #[c4_0,c4_1,c4_2] t4 (0,0))):w.cell? ⟨A0,0,none⟩=some c0_0∧w.cell? ⟨A0,1,none⟩=some c0_1∧w.cell? ⟨A0,2,none⟩=some c0_2∧w.cell? ⟨A1,0,none⟩=some c1_0∧w.cell? ⟨A1,1,none⟩=some c1_1∧w.cell? ⟨A1,2,none⟩=some c1_2∧w.cell? ⟨A2,0,none⟩=some c2_0∧w.cell? ⟨A2,1,none⟩=some c2_1∧w.cell? ⟨A3,0,none⟩=some c3_0∧w.cell? ⟨A3,1,none⟩=some c3_1∧w.cell? ⟨A4,0,none⟩=some c4_0∧w.cell? ⟨A4,1,none⟩=some c4_1∧w.cell? ⟨A4,2,none⟩=some c4_2:=⟨af_ h0 0,af_ h0 1,af_ h0 2,af_ h1 0,af_ h1 1,af_ h1 2,af_ h2 0,af_ h2 1,af_ h3 0,af_ h3 1,af_ h4 0,af_ h4 1,af_ h4 2⟩
theorem qval_add{na nb:Bool}{u v x y:Nat}(hv:v≠0)(hy:y≠0)(s:Int)(hs:s=zval na (u * y)+zval nb (x * v)):qval (zneg s) s.natAbs (v * y)=qval na u v+qval nb x y:=by
 unfold qval
 rw[hk_,Rat.mkRat_add_mkRat _ _ hv hy,hs]
 congr 1
 unfold zval
 cases na <;> cases nb <;> simp[Int.neg_mul]
theorem q5_{P:Program}{f:FuncId}{args:Array Value}{v0 v:World}{l:List Nat}(hv:Below v0.heap.size v0 v)(h:Calls P f args v (Lst l v)) :
 Calls P f args v (fun e w'=>∃(a:OA_) (n cap:Nat),e=.returned (.slice a n cap)∧Wd w' a n cap l∧Below v0.heap.size v0 w'∧∀(g:Nat) (o:Obj),v.heap[g]? = some o→w'.heap[g]? = some o):=
 h.mono fun _ _ ⟨a,n,c,he,h1,hb⟩=>⟨a,n,c,he,h1,ab_ hv hb,fun _ _ hg=>ac_ hg hb⟩
theorem bh_{w:World}{A g:Nat}{o:Obj}(h:w.heap[A]? = some o)(hne:A≠g)(u v:Value):((w.setCell ⟨g,0,none⟩ u).setCell ⟨g,1,none⟩ v).heap[A]? = some o:=ci_ (ci_ h hne 0 u) hne 1 v
theorem ref09_add(na:Bool)(a:OA_)(n cap:Nat)(la:List Nat)(b:OA_)(m cap':Nat)(lb:List Nat)(nb:Bool)(a':OA_)(n' c':Nat)(la':List Nat)(b':OA_)(m' d':Nat)(lb':List Nat)(w:World)(ha:Wd w a n cap la)(hb:Wd w b m cap' lb)(ha':Wd w a' n' c' la')(hb':Wd w b' m' d' lb')(hn:n≤20971520000)(hm:m≤20971520000)(hn':n'≤20971520000)(hm':m'≤20971520000)(hd:Hid (val lb≠0))(hd':Hid (val lb'≠0)) :
 Calls Tryz.prog 113 #[frV na a n cap b m cap',frV nb a' n' c' b' m' d'] w (LstQ (qval na (val la) (val lb)+qval nb (val la') (val lb')) w):=by
 have HB:=hd_ (ab_ (ab_ (aa_ w (.cells #[.bool na,.slice a n cap,.slice b m cap'] 27)) (aa_ _ (.cells #[.bool nb,.slice a' n' c',.slice b' m' d'] 27))) (aa_ _ (.cells #[.bool false,.slice none 0 0,.slice none 0 0] 27)))
 have HA:=hd_ (ha.later HB.out)
 have HC:=hd_ (hb.later HB.out)
 have HA':=hd_ (ha'.later HB.out)
 have HC':=hd_ (hb'.later HB.out)
 obtain⟨hx1,hx2,hx3⟩:=em_ w #[.bool na,.slice a n cap,.slice b m cap'] #[.bool nb,.slice a' n' c',.slice b' m' d'] #[.bool false,.slice none 0 0,.slice none 0 0] 27 27 27
 have HX:=hd_ hx1
 have HY:=hd_ hx2
 have HR:=hd_ hx3
 have ha1:=ha.trim_le
 have hb1:=hb.trim_le
 have ha2:=ha'.trim_le
 have hb2:=hb'.trim_le
 have hW1:w.heap.size+1+1 < (((w.alloc (.cells #[.bool na,.slice a n cap,.slice b m cap'] 27)).alloc (.cells #[.bool nb,.slice a' n' c',.slice b' m' d'] 27)).alloc (.cells #[.bool false,.slice none 0 0,.slice none 0 0] 27)).heap.size:=(Array.getElem?_eq_some_iff.1 hx3).1
 clear ha hb ha' hb' hx1 hx2 hx3
 have zl1:=bp_ (val la) (val lb')
 have zl2:=bp_ (val la') (val lb)
 have zl3:=bp_ (val lb) (val lb')
 obtain⟨u,hu⟩:∃u,u=val la * val lb':=⟨_,rfl⟩
 obtain⟨v,hv⟩:∃v,v=val la' * val lb:=⟨_,rfl⟩
 obtain⟨s,hs⟩:∃s,s=zval na u+zval nb v:=⟨_,rfl⟩
 have zl4:=th_ (zval na u) (zval nb v)
 rw[dy_,dy_,←hs] at zl4
 have HU:=hd_ hu
 have HV:=hd_ hv
 have HS:=hd_ hs
 rw[←hu] at zl1
 rw[←hv] at zl2
 have HQ:Hid (qval (zneg s) (val (dg s.natAbs)) (val (dg (val lb * val lb')))=qval na (val la) (val lb)+qval nb (val la') (val lb')):=hd_ (by rw[a1_,a1_];exact qval_add hd.out hd'.out s (by rw[hs,hu,hv]))
 clear hu hv hs
 go_enter Tryz.func113,Tryz.ntmps113
 unfold frV
 go_wp2
 generalize (((w.alloc (.cells #[.bool na,.slice a n cap,.slice b m cap'] 27)).alloc (.cells #[.bool nb,.slice a' n' c',.slice b' m' d'] 27)).alloc (.cells #[.bool false,.slice none 0 0,.slice none 0 0] 27))=W at *
 go_cut [5] from 8 to 15 (fun pv wx=>∃(g:Nat) (a1:OA_) (n1 c1:Nat),pv=.pointer (some ⟨g,0,none⟩)∧n1≤52428800000∧Hid (Wd wx a1 n1 c1 (dg u))∧Hid (wx.heap[g]? = some (.cells #[.bool na,.slice a1 n1 c1] 143 (0,0)))∧Hid (Below W.heap.size W wx))
 case first=>
  have HBd:Hid (Below W.heap.size W W.drew):=hd_ (Below.refl _ _).drew
  have pSn:=bg_ (ac_ HX.out HBd.out) (ac_ HY.out HBd.out)
  have pSa:=fun o=>bg_ (ac_ HX.out (ab_ HBd.out (aa_ _ o))) (ac_ HY.out (ab_ HBd.out (aa_ _ o)))
  have hW2:w.heap.size+1 < W.heap.size:=(Array.getElem?_eq_some_iff.1 HY.out).1
  go_region_held3 (fun w'=>w'.cell? ⟨w.heap.size,0,none⟩=some (.bool na)∧w'.cell? ⟨w.heap.size,1,none⟩=some (.slice a n cap)∧w'.cell? ⟨w.heap.size,2,none⟩=some (.slice b m cap')∧w'.cell? ⟨w.heap.size+1,0,none⟩=some (.bool nb)∧w'.cell? ⟨w.heap.size+1,1,none⟩=some (.slice a' n' c')∧w'.cell? ⟨w.heap.size+1,2,none⟩=some (.slice b' m' d')) (first | exact pSn | exact pSa _ | exact rSn | exact rSa _ | exact rSb _ _ _ (by omega) (by omega))
   (first
   | (go_at_call 99;refine (q5_ (v0:=W) ?q0 (fd_ a n cap la b' m' d' lb' _ (HA.out.later ?q1) (HC'.out.later ?q2) (by omega) (by omega))).mono ?_;(case q0=>first | exact HBd.out | exact ab_ HBd.out (aa_ _ _));(case q1=>first | exact HBd.out | exact ab_ HBd.out (aa_ _ _));(case q2=>first | exact HBd.out | exact ab_ HBd.out (aa_ _ _));rintro e w2 ⟨a2,n2,c2,rfl,h2,hb2,k2⟩;rw[←HU.out] at h2;have R2:=hd_ h2;have hn2:n2≤52428800000:=(by have:=h2.len;omega);have HB2:=hd_ hb2;have hW3:=hb2.size;(first | (have HN2:=hd_ (k2 _ _ (ai_ _ _ _))) | skip);(try (have r0:=af_ HN2.out 0;have r1:=af_ HN2.out 1;have f0:=ad_ HN2.out 0;have f1:=ad_ HN2.out 1;simp only[List.getElem?_toArray,List.getElem?_cons_zero,List.getElem?_cons_succ] at r0 r1));have rSn:=bg_ (ac_ HX.out hb2) (ac_ HY.out hb2);have rSa:=fun o=>bg_ (ac_ HX.out (ab_ hb2 (aa_ _ o))) (ac_ HY.out (ab_ hb2 (aa_ _ o)));have rSb:=fun g u v hg1 hg2=>bg_ (bh_ (g:=g) (ac_ HX.out hb2) hg1 u v) (bh_ (g:=g) (ac_ HY.out hb2) hg2 u v);clear h2 hb2 pSn pSa k2))
  all_goals (
   go_wp2
   go_meet
   first
   | exact⟨_,a2,n2,c2,rfl,hn2,hd_ (R2.out.later (aa_ _ _)),hd_ (ai_ _ _ _),hd_ (ab_ HB2.out (aa_ _ _))⟩
   | exact⟨_,a2,n2,c2,rfl,hn2,hd_ (R2.out.stored2 HN2.out _ _),hd_ (a4_ HN2.out _ _),hd_ (an_ HB2.out (by omega) _ _)⟩)
 case rest=>
  obtain⟨g1,a1,n1,c1,rfl,hn1,R1,HP1,HBc⟩:=hcut
  replace HX:=hd_ (ac_ HX.out HBc.out)
  replace HY:=hd_ (ac_ HY.out HBc.out)
  replace HR:=hd_ (ac_ HR.out HBc.out)
  replace HA:=hd_ (HA.out.later HBc.out)
  replace HC:=hd_ (HC.out.later HBc.out)
  replace HA':=hd_ (HA'.out.later HBc.out)
  replace HC':=hd_ (HC'.out.later HBc.out)
  replace HB:=hd_ (ab_ HB.out HBc.out)
  clear HBc
  obtain⟨V,rfl⟩:∃V,V=wc:=⟨_,rfl⟩
  go_wp2
  go_cut [6] from 16 to 23 (fun pv wx=>∃(g:Nat) (a1:OA_) (n1 c1:Nat),pv=.pointer (some ⟨g,0,none⟩)∧n1≤52428800000∧Hid (Wd wx a1 n1 c1 (dg v))∧Hid (wx.heap[g]? = some (.cells #[.bool nb,.slice a1 n1 c1] 143 (0,0)))∧Hid (Below V.heap.size V wx))
  case first=>
   have HBd:Hid (Below V.heap.size V V.drew):=hd_ (Below.refl _ _).drew
   have pSn:=bg_ (ac_ HX.out HBd.out) (ac_ HY.out HBd.out)
   have pSa:=fun o=>bg_ (ac_ HX.out (ab_ HBd.out (aa_ _ o))) (ac_ HY.out (ab_ HBd.out (aa_ _ o)))
   have hW2:w.heap.size+1 < V.heap.size:=(Array.getElem?_eq_some_iff.1 HY.out).1
   go_region_held3 (fun w'=>w'.cell? ⟨w.heap.size,0,none⟩=some (.bool na)∧w'.cell? ⟨w.heap.size,1,none⟩=some (.slice a n cap)∧w'.cell? ⟨w.heap.size,2,none⟩=some (.slice b m cap')∧w'.cell? ⟨w.heap.size+1,0,none⟩=some (.bool nb)∧w'.cell? ⟨w.heap.size+1,1,none⟩=some (.slice a' n' c')∧w'.cell? ⟨w.heap.size+1,2,none⟩=some (.slice b' m' d')) (first | exact pSn | exact pSa _ | exact rSn | exact rSa _ | exact rSb _ _ _ (by omega) (by omega))
    (first
    | (go_at_call 99;refine (q5_ (v0:=V) ?q0 (fd_ a' n' c' la' b m cap' lb _ (HA'.out.later ?q1) (HC.out.later ?q2) (by omega) (by omega))).mono ?_;(case q0=>first | exact HBd.out | exact ab_ HBd.out (aa_ _ _));(case q1=>first | exact HBd.out | exact ab_ HBd.out (aa_ _ _));(case q2=>first | exact HBd.out | exact ab_ HBd.out (aa_ _ _));rintro e w2 ⟨a2,n2,c2,rfl,h2,hb2,k2⟩;rw[←HV.out] at h2;have R2:=hd_ h2;have hn2:n2≤52428800000:=(by have:=h2.len;omega);have HB2:=hd_ hb2;have hW3:=hb2.size;(first | (have HN2:=hd_ (k2 _ _ (ai_ _ _ _))) | skip);(try (have r0:=af_ HN2.out 0;have r1:=af_ HN2.out 1;have f0:=ad_ HN2.out 0;have f1:=ad_ HN2.out 1;simp only[List.getElem?_toArray,List.getElem?_cons_zero,List.getElem?_cons_succ] at r0 r1));have rSn:=bg_ (ac_ HX.out hb2) (ac_ HY.out hb2);have rSa:=fun o=>bg_ (ac_ HX.out (ab_ hb2 (aa_ _ o))) (ac_ HY.out (ab_ hb2 (aa_ _ o)));have rSb:=fun g u v hg1 hg2=>bg_ (bh_ (g:=g) (ac_ HX.out hb2) hg1 u v) (bh_ (g:=g) (ac_ HY.out hb2) hg2 u v);clear h2 hb2 pSn pSa k2))
   all_goals (
    go_wp2
    go_meet
    first
    | exact⟨_,a2,n2,c2,rfl,hn2,hd_ (R2.out.later (aa_ _ _)),hd_ (ai_ _ _ _),hd_ (ab_ HB2.out (aa_ _ _))⟩
    | exact⟨_,a2,n2,c2,rfl,hn2,hd_ (R2.out.stored2 HN2.out _ _),hd_ (a4_ HN2.out _ _),hd_ (an_ HB2.out (by omega) _ _)⟩)
  case rest=>
   obtain⟨g2,a2,n2,c2,rfl,hn2,R2,HP2,HBc⟩:=hcut
   replace HX:=hd_ (ac_ HX.out HBc.out)
   replace HY:=hd_ (ac_ HY.out HBc.out)
   replace HR:=hd_ (ac_ HR.out HBc.out)
   replace HP1:=hd_ (ac_ HP1.out HBc.out)
   replace HA:=hd_ (HA.out.later HBc.out)
   replace HC:=hd_ (HC.out.later HBc.out)
   replace HA':=hd_ (HA'.out.later HBc.out)
   replace HC':=hd_ (HC'.out.later HBc.out)
   replace R1:=hd_ (R1.out.later HBc.out)
   replace HB:=hd_ (ab_ HB.out HBc.out)
   clear HBc
   have HVu:Hid (val (dg u)=u):=hd_ (a1_ _)
   have HVv:Hid (val (dg v)=v):=hd_ (a1_ _)
   clear HA HA'
   obtain⟨vk0,vk1,vk2,vk3,vk4,vk5,vk6,vk7,vk8,vk9,vk10,vk11,vk12⟩:=l8_ HX.out HY.out HP1.out HP2.out HR.out
   go_wp2_with fail
   refine (sz_ na a1 n1 c1 _ (zval na u) nb a2 n2 c2 _ (zval nb v) _ R1.out R2.out (by omega) (by omega) (by rw[HVu.out]) (by rw[HVv.out])).mono ?_
   rintro e wv1 ⟨a3,n3,c3,rfl,h3,b⟩
   clear vk0 vk1 vk2 vk3 vk4 vk5 vk6 vk7 vk8 vk9 vk10 vk11 vk12
   replace HB:=bt_ HB b
   replace HX:=bl_ HX b
   replace HY:=bl_ HY b
   replace HP1:=bl_ HP1 b
   replace HP2:=bl_ HP2 b
   replace HR:=bl_ HR b
   clear R1
   clear R2
   replace HC:=HC.l_ b
   replace HC':=HC'.l_ b
   clear b
   rw[←HS.out] at h3 ⊢
   have hn3:n3≤94371840000:=by have:=h3.len;omega
   have R3:=hd_ h3
   clear h3
   have hW9:w.heap.size+1+1 < wv1.heap.size:=(Array.getElem?_eq_some_iff.1 HR.out).1
   unfold whV
   have HP3:Hid ((World.alloc wv1 (.cells #[.bool (zneg s),.slice a3 n3 c3] 143)).heap[wv1.heap.size]? = some (.cells #[.bool (zneg s),.slice a3 n3 c3] 143 (0,0))):=hd_ (ai_ wv1 _ _)
   replace HB:=hd_ (ab_ HB.out (aa_ wv1 (.cells #[.bool (zneg s),.slice a3 n3 c3] 143)))
   replace HX:=hd_ (ac_ HX.out (aa_ wv1 (.cells #[.bool (zneg s),.slice a3 n3 c3] 143)))
   replace HY:=hd_ (ac_ HY.out (aa_ wv1 (.cells #[.bool (zneg s),.slice a3 n3 c3] 143)))
   replace HP1:=hd_ (ac_ HP1.out (aa_ wv1 (.cells #[.bool (zneg s),.slice a3 n3 c3] 143)))
   replace HP2:=hd_ (ac_ HP2.out (aa_ wv1 (.cells #[.bool (zneg s),.slice a3 n3 c3] 143)))
   replace HR:=hd_ (ac_ HR.out (aa_ wv1 (.cells #[.bool (zneg s),.slice a3 n3 c3] 143)))
   replace HC:=hd_ (HC.out.later (aa_ wv1 (.cells #[.bool (zneg s),.slice a3 n3 c3] 143)))
   replace HC':=hd_ (HC'.out.later (aa_ wv1 (.cells #[.bool (zneg s),.slice a3 n3 c3] 143)))
   replace R3:=hd_ (R3.out.later (aa_ wv1 (.cells #[.bool (zneg s),.slice a3 n3 c3] 143)))
   obtain⟨vk0,vk1,vk2,vk3,vk4,vk5,vk6,vk7⟩:=f5_ HX.out HY.out HP3.out
   go_wp2
   clear vk0 vk1 vk2 vk3 vk4 vk5 vk6 vk7
   generalize (wv1.alloc (.cells #[.bool (zneg s),.slice a3 n3 c3] 143))=Z at *
   replace HB:=bt_ HB (dw_ Z)
   replace HX:Hid (Z.drew.heap[w.heap.size]? = _):=hd_ HX.out
   replace HY:Hid (Z.drew.heap[w.heap.size+1]? = _):=hd_ HY.out
   replace HP3:Hid (Z.drew.heap[wv1.heap.size]? = _):=hd_ HP3.out
   replace HR:Hid (Z.drew.heap[w.heap.size+1+1]? = some (.cells #[.bool false,.slice none 0 0,.slice none 0 0] 27 (0,0))):=hd_ HR.out
   replace HC:=HC.l_ (dw_ Z)
   replace HC':=HC'.l_ (dw_ Z)
   replace R3:=R3.l_ (dw_ Z)
   have pSn:=f5_ HX.out HY.out HP3.out
   go_region_held3 (fun w'=>w'.cell? ⟨w.heap.size,0,none⟩=some (.bool na)∧w'.cell? ⟨w.heap.size,1,none⟩=some (.slice a n cap)∧w'.cell? ⟨w.heap.size,2,none⟩=some (.slice b m cap')∧w'.cell? ⟨w.heap.size+1,0,none⟩=some (.bool nb)∧w'.cell? ⟨w.heap.size+1,1,none⟩=some (.slice a' n' c')∧w'.cell? ⟨w.heap.size+1,2,none⟩=some (.slice b' m' d')∧w'.cell? ⟨wv1.heap.size,0,none⟩=some (.bool (zneg s))∧w'.cell? ⟨wv1.heap.size,1,none⟩=some (.slice a3 n3 c3)) (first | exact pSn | exact pSb _ _ _)
    (first
    | (go_at_call 99;(first
      | (refine (fd_ b m cap' lb b' m' d' lb' _ HC.out HC'.out (by omega) (by omega)).mono ?_;rintro e wp1 ⟨a4,n4,c4,rfl,h4,b⟩;replace HB:=bt_ HB b;replace HX:=bl_ HX b;replace HY:=bl_ HY b;replace HP3:=bl_ HP3 b;replace HR:=bl_ HR b;replace HC:=HC.l_ b;replace HC':=HC'.l_ b;replace R3:=R3.l_ b;have R4:=hd_ h4;have hn4:n4≤94371840000:=(by have:=h4.len;omega);clear h4;clear b;clear pSn;have pSn:=f5_ HX.out HY.out HP3.out;have pM1:=True.intro)))
    | (go_at_call 11;(first
      | (have pm1:=pM1;refine (ft_ _ a3 n3 c3 _ a4 n4 c4 _ _ R3.out R4.out (by omega) (by omega)).mono ?_;rintro e wp2 ⟨a5,n5,c5,a6,n6,c6,rfl,h5,h6,b⟩;replace HB:=bt_ HB b;replace HX:=bl_ HX b;replace HY:=bl_ HY b;replace HP3:=bl_ HP3 b;replace HR:=bl_ HR b;replace HC:=HC.l_ b;replace HC':=HC'.l_ b;replace R3:=R3.l_ b;clear R4;have R5:=hd_ h5;have R6:=hd_ h6;clear h5 h6;obtain⟨r0,r1,r2⟩:=g0_ HR.out;have f0:=ad_ HR.out 0;have f1:=ad_ HR.out 1;have f2:=ad_ HR.out 2;have pSb:=fun u v q=>f5_ (bw_ (g:=w.heap.size+1+1) HX.out (by omega) u v q) (bw_ (g:=w.heap.size+1+1) HY.out (by omega) u v q) (bw_ (g:=w.heap.size+1+1) HP3.out (by omega) u v q);unfold frV;clear b;clear pSn;have pSn:=f5_ HX.out HY.out HP3.out;clear pM1 pm1;have pM2:=True.intro))))
   rw[HQ.out] at R5 R6
   rw[HQ.out]
   generalize qval na (val la) (val lb)+qval nb (val la') (val lb')=q at *
   have HG:=hd_ (bm_ HR.out (.bool (zneg q.num)) (.slice a5 n5 c5) (.slice a6 n6 c6))
   have HL:=hd_ (az_ HB.out (show w.heap.size≤w.heap.size+1+1 by omega) (.bool (zneg q.num)) (.slice a5 n5 c5) (.slice a6 n6 c6))
   have HW1:=hd_ (R5.out.stored3 HR.out (zneg q.num) a5 n5 c5 (.slice a6 n6 c6))
   have HW2:=hd_ (R6.out.stored3 HR.out (zneg q.num) a5 n5 c5 (.slice a6 n6 c6))
   go_wp2
   refine bodyPost_ret (results_cell_row Tryz.results113 _ _ (w.heap.size+1+1) 27 #[.bool (zneg q.num),.slice a5 n5 c5,.slice a6 n6 c6] (0,0) _ rfl HG.out Tryz.underlying27 rfl (by kernel_rfl)) rfl ?_
   exact⟨_,_,_,_,_,_,rfl,HW1.out,HW2.out,HL.out⟩
theorem qval_len(neg:Bool)(u v:Nat):(dg (qval neg u v).num.natAbs).length≤(dg u).length∧(dg (qval neg u v).den).length≤(dg v).length+1:=by
 by_cases hv:v=0
 ·rw[d5_ neg (.inl hv),show ((0:Rat).num).natAbs=0 from rfl,show (0:Rat).den=1 from rfl,cm_]
  have h1:(dg 1).length≤1:=bn_ (by decide)
  exact⟨by simp,by omega⟩
 ·obtain⟨h1,h2⟩:=e3_ neg (u:=u) hv
  rw[h1,h2,dy_]
  exact⟨aw_ (Nat.div_le_self _ _),Nat.le_trans (aw_ (Nat.div_le_self _ _)) (by omega)⟩
theorem den_nz(q:Rat):val (dg q.den)≠0:=by rw[a1_];exact q.den_nz

theorem q2_{w:World}{A0 A1:Nat}{c0_0 c0_1 c0_2 c1_0:Value}{t0 t1:TypeId}(h0:w.heap[A0]? = some (.cells #[c0_0,c0_1,c0_2] t0 (0,0)))(h1:w.heap[A1]? = some (.cells #[c1_0] t1 (0,0))):w.cell? ⟨A0,0,none⟩=some c0_0∧w.cell? ⟨A0,1,none⟩=some c0_1∧w.cell? ⟨A0,2,none⟩=some c0_2∧w.cell? ⟨A1,0,none⟩=some c1_0:=⟨af_ h0 0,af_ h0 1,af_ h0 2,af_ h1 0⟩
theorem rw_{w:World}{A0 A1 A2:Nat}{c0_0 c0_1 c0_2 c1_0 c2_0:Value}{t0 t1 t2:TypeId}(h0:w.heap[A0]? = some (.cells #[c0_0,c0_1,c0_2] t0 (0,0)))(h1:w.heap[A1]? = some (.cells #[c1_0] t1 (0,0)))(h2:w.heap[A2]? = some (.cells #[c2_0] t2 (0,0))):w.cell? ⟨A0,0,none⟩=some c0_0∧w.cell? ⟨A0,1,none⟩=some c0_1∧w.cell? ⟨A0,2,none⟩=some c0_2∧w.cell? ⟨A1,0,none⟩=some c1_0∧w.cell? ⟨A2,0,none⟩=some c2_0:=⟨af_ h0 0,af_ h0 1,af_ h0 2,af_ h1 0,af_ h2 0⟩
theorem tg_{z:Int}{u:Nat}{neg:Bool}(h:zval neg u=z):qval neg u 1=(z:Rat):=by
 unfold qval
 rw[h,Rat.mkRat_one]
theorem cz_(z:Int)(w:World)(hz:hi_ z):Calls Tryz.prog 15 #[.int .i64 z] w (LstQ (z:Rat) w):=by
 have hz1 : -9223372036854775808≤z∧z≤9223372036854775807:=hz
 have HB:=hd_ (aa_ w (.cells #[.bool false,.slice none 0 0,.slice none 0 0] 27))
 have HR:Hid ((w.alloc (.cells #[.bool false,.slice none 0 0,.slice none 0 0] 27)).heap[w.heap.size]? = some (.cells #[.bool false,.slice none 0 0,.slice none 0 0] 27 (0,0))):=hd_ (ai_ w _ _)
 have H1:Hid (val [1]=1):=rfl
 clear hz
 by_cases hneg:z < 0
 ·obtain⟨k,hk⟩:∃k:Nat,-(z+1)=(k:Int):=⟨(-(z+1)).toNat,by omega⟩
  have hkb:k≤9223372036854775807:=by omega
  have HQ:Hid (qval true (val (dg (val (dg k)+val [1]))) (val [1])=(z:Rat)):=hd_ (by rw[H1.out,a1_,a1_];exact tg_ (by rw[q8_];omega))
  have hl1:(dg k).length≤2:=bn_ (Nat.lt_of_le_of_lt hkb (by decide))
  have hl2:(dg (val (dg k)+val [1])).length≤4:=by have:=ep_ (val (dg k)) 1;rw[H1.out];rw[a1_] at this ⊢;have h3:(dg 1).length≤1:=bn_ (by decide);omega
  go_enter Tryz.func15,Tryz.ntmps15
  obtain⟨vk0,vk1,vk2⟩:=g0_ HR.out
  go_wp2_with fail
  refine (t6_ k _ (by omega)).mono ?_
  rintro e wv1 ⟨a1,n1,c1,rfl,h1,b⟩
  clear vk0 vk1 vk2
  replace HB:=bt_ HB b
  replace HR:=bl_ HR b
  clear b
  have hn1:=h1.len
  have R1:=hd_ h1
  clear h1
  have HO1:Hid ((World.alloc wv1 (.cells #[.int .u32 1] 81)).heap[wv1.heap.size]? = some (.cells #[.int .u32 1] 81 (0,0))):=hd_ (ai_ wv1 _ _)
  replace HB:=hd_ (ab_ HB.out (aa_ wv1 (.cells #[.int .u32 1] 81)))
  replace HR:=hd_ (ac_ HR.out (aa_ wv1 (.cells #[.int .u32 1] 81)))
  replace R1:=hd_ (R1.out.later (aa_ wv1 (.cells #[.int .u32 1] 81)))
  obtain⟨vk0,vk1,vk2,vk3⟩:=q2_ HR.out HO1.out
  go_wp2_with fail
  refine (q4_ a1 n1 c1 _ _ 1 1 [1] _ R1.out (Wd.lit1 wv1 81 (x:=1) (by omega)) (by omega) (by omega)).mono ?_
  rintro e wv2 ⟨a2,n2,c2,rfl,h2,b⟩
  clear vk0 vk1 vk2 vk3
  replace HB:=bt_ HB b
  replace HR:=bl_ HR b
  replace HO1:=bl_ HO1 b
  clear R1
  clear b
  have hn2:=h2.len
  have R2:=hd_ h2
  clear h2
  have HO2:Hid ((World.alloc wv2 (.cells #[.int .u32 1] 81)).heap[wv2.heap.size]? = some (.cells #[.int .u32 1] 81 (0,0))):=hd_ (ai_ wv2 _ _)
  replace HB:=hd_ (ab_ HB.out (aa_ wv2 (.cells #[.int .u32 1] 81)))
  replace HR:=hd_ (ac_ HR.out (aa_ wv2 (.cells #[.int .u32 1] 81)))
  replace HO1:=hd_ (ac_ HO1.out (aa_ wv2 (.cells #[.int .u32 1] 81)))
  replace R2:=hd_ (R2.out.later (aa_ wv2 (.cells #[.int .u32 1] 81)))
  obtain⟨vk0,vk1,vk2,vk3,vk4⟩:=rw_ HR.out HO1.out HO2.out
  go_wp2_with fail
  refine (ft_ true a2 n2 c2 _ _ 1 1 [1] _ R2.out (Wd.lit1 wv2 81 (x:=1) (by omega)) (by omega) (by omega)).mono ?_
  rintro e wv3 ⟨a3,n3,c3,b3x,m3x,d3x,rfl,h8,h9,b⟩
  clear vk0 vk1 vk2 vk3 vk4
  replace HB:=bt_ HB b
  replace HR:=bl_ HR b
  replace HO1:=bl_ HO1 b
  replace HO2:=bl_ HO2 b
  clear R2
  clear b
  rw[HQ.out] at h8 h9 ⊢
  have R8:=hd_ h8
  have R9:=hd_ h9
  clear h8 h9 HQ hl2 hn1 hn2
  unfold frV
  have HG:=hd_ (bm_ HR.out (.bool (zneg (z:Rat).num)) (.slice a3 n3 c3) (.slice b3x m3x d3x))
  have HL:=hd_ (az_ HB.out (Nat.le_refl w.heap.size) (.bool (zneg (z:Rat).num)) (.slice a3 n3 c3) (.slice b3x m3x d3x))
  have HW1:=hd_ (R8.out.stored3 HR.out (zneg (z:Rat).num) a3 n3 c3 (.slice b3x m3x d3x))
  have HW2:=hd_ (R9.out.stored3 HR.out (zneg (z:Rat).num) a3 n3 c3 (.slice b3x m3x d3x))
  obtain⟨k0,k1,k2⟩:=g0_ HR.out
  have f0:=ad_ HR.out 0
  have f1:=ad_ HR.out 1
  have f2:=ad_ HR.out 2
  generalize (z:Rat)=q at *
  go_wp2
  refine bodyPost_ret (results_cell_row Tryz.results15 _ _ w.heap.size 27 #[.bool (zneg q.num),.slice a3 n3 c3,.slice b3x m3x d3x] (0,0) _ rfl HG.out Tryz.underlying27 rfl (by kernel_rfl)) rfl ?_
  exact⟨_,_,_,_,_,_,rfl,HW1.out,HW2.out,HL.out⟩
 ·obtain⟨k,hk⟩:∃k:Nat,z=(k:Int):=⟨z.toNat,by omega⟩
  have hkb:k≤9223372036854775807:=by omega
  have HQ:Hid (qval false (val (dg k)) (val [1])=(z:Rat)):=hd_ (by rw[H1.out,a1_];exact tg_ (by rw[j7_];omega))
  have hl1:(dg k).length≤2:=bn_ (Nat.lt_of_le_of_lt hkb (by decide))
  have hw:(k:Int) % 18446744073709551616=(k:Int):=by omega
  go_enter Tryz.func15,Tryz.ntmps15
  obtain⟨vk0,vk1,vk2⟩:=g0_ HR.out
  go_wp2_with fail
  refine (t6_ k _ (by omega)).mono ?_
  rintro e wv1 ⟨a1,n1,c1,rfl,h1,b⟩
  clear vk0 vk1 vk2
  replace HB:=bt_ HB b
  replace HR:=bl_ HR b
  clear b
  have hn1:=h1.len
  have R1:=hd_ h1
  clear h1
  have HO1:Hid ((World.alloc wv1 (.cells #[.int .u32 1] 81)).heap[wv1.heap.size]? = some (.cells #[.int .u32 1] 81 (0,0))):=hd_ (ai_ wv1 _ _)
  replace HB:=hd_ (ab_ HB.out (aa_ wv1 (.cells #[.int .u32 1] 81)))
  replace HR:=hd_ (ac_ HR.out (aa_ wv1 (.cells #[.int .u32 1] 81)))
  replace R1:=hd_ (R1.out.later (aa_ wv1 (.cells #[.int .u32 1] 81)))
  obtain⟨vk0,vk1,vk2,vk3⟩:=q2_ HR.out HO1.out
  go_wp2_with fail
  refine (ft_ false a1 n1 c1 _ _ 1 1 [1] _ R1.out (Wd.lit1 wv1 81 (x:=1) (by omega)) (by omega) (by omega)).mono ?_
  rintro e wv2 ⟨a3,n3,c3,b3x,m3x,d3x,rfl,h8,h9,b⟩
  clear vk0 vk1 vk2 vk3
  replace HB:=bt_ HB b
  replace HR:=bl_ HR b
  replace HO1:=bl_ HO1 b
  clear R1
  clear b
  rw[HQ.out] at h8 h9 ⊢
  have R8:=hd_ h8
  have R9:=hd_ h9
  clear h8 h9 HQ hn1
  unfold frV
  have HG:=hd_ (bm_ HR.out (.bool (zneg (z:Rat).num)) (.slice a3 n3 c3) (.slice b3x m3x d3x))
  have HL:=hd_ (az_ HB.out (Nat.le_refl w.heap.size) (.bool (zneg (z:Rat).num)) (.slice a3 n3 c3) (.slice b3x m3x d3x))
  have HW1:=hd_ (R8.out.stored3 HR.out (zneg (z:Rat).num) a3 n3 c3 (.slice b3x m3x d3x))
  have HW2:=hd_ (R9.out.stored3 HR.out (zneg (z:Rat).num) a3 n3 c3 (.slice b3x m3x d3x))
  obtain⟨k0,k1,k2⟩:=g0_ HR.out
  have f0:=ad_ HR.out 0
  have f1:=ad_ HR.out 1
  have f2:=ad_ HR.out 2
  generalize (z:Rat)=q at *
  go_wp2
  refine bodyPost_ret (results_cell_row Tryz.results15 _ _ w.heap.size 27 #[.bool (zneg q.num),.slice a3 n3 c3,.slice b3x m3x d3x] (0,0) _ rfl HG.out Tryz.underlying27 rfl (by kernel_rfl)) rfl ?_
  exact⟨_,_,_,_,_,_,rfl,HW1.out,HW2.out,HL.out⟩
theorem vb_(neg:Bool)(a:OA_)(n cap:Nat)(b:OA_)(m cap':Nat)(k:Int)(w:World) :
 Calls Tryz.prog 8 #[frV neg a n cap b m cap',.int .i64 k] w (bi_ (.bool (decide (k < (n:Int)) || decide (k < (m:Int)))) w):=by
 unfold frV
 go_enter Tryz.func8,Tryz.ntmps8
 by_cases h:k < (n:Int)
 ·rw[decide_eq_true h,Bool.true_or]
  go_wp2
  go_ret
  exact⟨rfl,aa_ _ _⟩
 ·rw[decide_eq_false h,Bool.false_or]
  go_wp2
  go_ret
  exact⟨rfl,aa_ _ _⟩
open Go.ChangeShapes Go.WideShapes Go.ChangeAt Go.RowKit Go.Deep
def Frs (w:World) (a:OA_) (n cap:Nat) (ls:List (Bool × List Nat × List Nat)):Prop:=
 ls.length=n∧n≤cap∧cap≤9223372036854775807∧(a=none→cap=0)∧(n=0∨∃b off,a=some ⟨b,off,none⟩∧∀j,j < n→∃(a':OA_) (n' c':Nat) (b':OA_) (m' d':Nat),
  w.cell? ⟨b,off+j * 3,none⟩=some (.bool (ls.getD j (false,[],[])).1)∧w.cell? ⟨b,off+j * 3+1,none⟩=some (.slice a' n' c')∧w.cell? ⟨b,off+j * 3+2,none⟩=some (.slice b' m' d')∧
   Wd w a' n' c' (ls.getD j (false,[],[])).2.1∧Wd w b' m' d' (ls.getD j (false,[],[])).2.2)
theorem Frs.len{w:World}{a:Option Addr}{n cap:Nat}{ls:List (Bool × List Nat × List Nat)}(h:Frs w a n cap ls):ls.length=n:=h.1
theorem Frs.bound{w:World}{a:Option Addr}{n cap:Nat}{ls:List (Bool × List Nat × List Nat)}(h:Frs w a n cap ls):n≤cap∧cap≤9223372036854775807:=⟨h.2.1,h.2.2.1⟩
theorem Frs.later{w w':World}{a:Option Addr}{n cap:Nat}{ls:List (Bool × List Nat × List Nat)}(h:Frs w a n cap ls)(hb:Below w.heap.size w w'):Frs w' a n cap ls:=
 ⟨h.1,h.2.1,h.2.2.1,h.2.2.2.1,h.2.2.2.2.imp id fun ⟨b,off,e,hc⟩=>⟨b,off,e,fun j hj=>by
   obtain⟨a',n',c',b',m',d',h1,h2,h3,h4,h5⟩:=hc j hj
   exact⟨a',n',c',b',m',d',cell_later hb h1,cell_later hb h2,cell_later hb h3,h4.later hb,h5.later hb⟩⟩⟩
theorem Frs.l_ {w w':World}{x0 x1 x2 x3}(h:Frs w x0 x1 x2 x3)(b:Below w.heap.size w w'):Hid (Frs w' x0 x1 x2 x3):=Lib.hid (h.later b)
theorem Frs.ofNil(w:World):Frs w none 0 0 []:=⟨rfl,Nat.le_refl _,by omega,fun _=>rfl,.inl rfl⟩
section
variable {H:Type} {enc:TypeId × Value→H} {P:Program} {W:World} {base:Nat}
end
end Go.Proofs.YtocebjbjnfammaaGreat
