import Derived.Test.YtocebjbjnfammaaGreatVG12
import Derived.Deep.RegionHeld3
import Derived.Deep.CutRange
import Derived.Deep.RegionWith
import Derived.Test.YtocebjbjnfammaaGreatVG8
import Derived.Deep.RegionLaw
import Derived.Test.YtocebjbjnfammaaGreatVG4
import Derived.Laws.MakeOwn
import Derived.OwnWalk
import Derived.Test.YtocebjbjnfammaaGreatVG1
set_option maxRecDepth 4096
set_option maxHeartbeats 16000000
namespace Go.Proofs.YtocebjbjnfammaaGreat
open Go.RowKit
theorem isF.none_iff{U V u v:List Rat}(h:isF U V u v):(plen U=0∨plen V=0)↔u=[]:=by
 refine ⟨fun e=>(h.zero e).1,fun e=>?_⟩
 by_cases hV:plen V=0
 ·exact .inr hV
 ·obtain⟨G,h1,_,_⟩:=h.whole hV
  refine .inl ?_
  rw[am_ h1,e];rfl
theorem isF.same_iff{U V u v X Y x y:List Rat}(h:isF U V u v)(k:isF X Y x y)(hV:plen V≠0)(hY:plen Y≠0):peq (pmul U Y) (pmul X V)↔(u=x∧v=y):=by
 constructor
 ·intro e
  have:=(h.cross hV hY e).same k
  exact⟨this.1.symm,this.2.symm⟩
 ·rintro ⟨rfl,rfl⟩
  obtain⟨G,g1,g2,_⟩:=h.whole hV
  obtain⟨K,k1,k2,_⟩:=k.whole hY
  refine ao_ fun z=>?_
  have e1:=ak_ z g1
  have e2:=ak_ z g2
  have e3:=ak_ z k1
  have e4:=ak_ z k2
  rw[ac_] at e1 e2 e3 e4
  rw[ac_,ac_,e1,e2,e3,e4];grind
theorem ml_{h s:Nat}(hk:Fok h s):s+2≤900000000∧h≤50:=by
 have:=kg_ hk
 have:=hk.2.1
 omega
theorem pi_(a:OA_)(n c:Nat)(b:OA_)(m d:Nat)(U V:LR_)(N:Nat)(a':OA_)(n' c':Nat)(b':OA_)(m' d':Nat)(X Y:LR_)(K:Nat)(w:World)(hU:Pv w a n c U N)(hV:Pv w b m d V N)(hX:Pv w a' n' c' X K)(hY:Pv w b' m' d' Y K)(r:Bool)(HZA:∀w':World,Pv w' a n c U N→Pv w' b m d V N→Calls Tryz.prog 23 #[.agg #[.slice a n c,.slice b m d]] w' (bg_ (.bool true) w'))(HZB:∀w':World,Pv w' a' n' c' X K→Pv w' b' m' d' Y K→Calls Tryz.prog 23 #[.agg #[.slice a' n' c',.slice b' m' d']] w' (bg_ (.bool r) w')):Calls Tryz.prog 24 #[.agg #[.slice a n c,.slice b m d],.agg #[.slice a' n' c',.slice b' m' d']] w (bg_ (.bool r) w):=by
 have HB:=hd_ (ab_ (aa_ w (.cells #[.slice a n c,.slice b m d] 35)) (aa_ _ (.cells #[.slice a' n' c',.slice b' m' d'] 35)))
 have X0:Hid (((w.alloc (.cells #[.slice a n c,.slice b m d] 35)).alloc (.cells #[.slice a' n' c',.slice b' m' d'] 35)).heap[w.heap.size]? = some (.cells #[.slice a n c,.slice b m d] 35 (0,0))):=hd_ (ae_ (aj_ w _ _) (aa_ _ (.cells #[.slice a' n' c',.slice b' m' d'] 35)))
 have X1:Hid (((w.alloc (.cells #[.slice a n c,.slice b m d] 35)).alloc (.cells #[.slice a' n' c',.slice b' m' d'] 35)).heap[w.heap.size+1]? = some (.cells #[.slice a' n' c',.slice b' m' d'] 35 (0,0))):=hd_ (by have h9:=aj_ (w.alloc (.cells #[.slice a n c,.slice b m d] 35)) #[.slice a' n' c',.slice b' m' d'] 35;rwa [aq_] at h9)
 have FU:=hd_ (hU.later HB.out)
 have FV:=hd_ (hV.later HB.out)
 have FX:=hd_ (hX.later HB.out)
 have FY:=hd_ (hY.later HB.out)
 clear hU hV hX hY
 obtain⟨x0,x1,x2,x3⟩:=ay_ X0.out X1.out
 go_enter Tryz.func24,Tryz.ntmps24
 go_wp2_with fail
 refine (HZA _ FU.out FV.out).mono ?_
 rintro e w1 ⟨rfl,bw⟩
 clear x0 x1 x2 x3
 replace HB:=bt_ HB bw
 replace X0:=bl_ X0 bw
 replace X1:=bl_ X1 bw
 replace FU:=FU.l_ bw
 replace FV:=FV.l_ bw
 replace FX:=FX.l_ bw
 replace FY:=FY.l_ bw
 clear bw
 obtain⟨x0,x1,x2,x3⟩:=ay_ X0.out X1.out
 go_wp2_with fail
 refine (HZA _ FU.out FV.out).mono ?_
 rintro e w2 ⟨rfl,bw⟩
 clear x0 x1 x2 x3
 replace HB:=bt_ HB bw
 replace X0:=bl_ X0 bw
 replace X1:=bl_ X1 bw
 replace FU:=FU.l_ bw
 replace FV:=FV.l_ bw
 replace FX:=FX.l_ bw
 replace FY:=FY.l_ bw
 clear bw
 obtain⟨x0,x1,x2,x3⟩:=ay_ X0.out X1.out
 go_wp2_with fail
 refine (HZB _ FX.out FY.out).mono ?_
 rintro e w3 ⟨rfl,bw⟩
 clear x0 x1 x2 x3
 replace HB:=bt_ HB bw
 replace X0:=bl_ X0 bw
 replace X1:=bl_ X1 bw
 replace FU:=FU.l_ bw
 replace FV:=FV.l_ bw
 replace FX:=FX.l_ bw
 replace FY:=FY.l_ bw
 clear bw
 obtain⟨x0,x1,x2,x3⟩:=ay_ X0.out X1.out
 go_wp2
 go_ret
 exact⟨rfl,HB.out⟩
theorem n1_(a:OA_)(n c:Nat)(b:OA_)(m d:Nat)(U V:LR_)(N:Nat)(a':OA_)(n' c':Nat)(b':OA_)(m' d':Nat)(X Y:LR_)(K:Nat)(w:World)(hU:Pv w a n c U N)(hV:Pv w b m d V N)(hX:Pv w a' n' c' X K)(hY:Pv w b' m' d' Y K)(HZA:∀w':World,Pv w' a n c U N→Pv w' b m d V N→Calls Tryz.prog 23 #[.agg #[.slice a n c,.slice b m d]] w' (bg_ (.bool false) w'))(HZB:∀w':World,Pv w' a' n' c' X K→Pv w' b' m' d' Y K→Calls Tryz.prog 23 #[.agg #[.slice a' n' c',.slice b' m' d']] w' (bg_ (.bool true) w')):Calls Tryz.prog 24 #[.agg #[.slice a n c,.slice b m d],.agg #[.slice a' n' c',.slice b' m' d']] w (bg_ (.bool false) w):=by
 have HB:=hd_ (ab_ (aa_ w (.cells #[.slice a n c,.slice b m d] 35)) (aa_ _ (.cells #[.slice a' n' c',.slice b' m' d'] 35)))
 have X0:Hid (((w.alloc (.cells #[.slice a n c,.slice b m d] 35)).alloc (.cells #[.slice a' n' c',.slice b' m' d'] 35)).heap[w.heap.size]? = some (.cells #[.slice a n c,.slice b m d] 35 (0,0))):=hd_ (ae_ (aj_ w _ _) (aa_ _ (.cells #[.slice a' n' c',.slice b' m' d'] 35)))
 have X1:Hid (((w.alloc (.cells #[.slice a n c,.slice b m d] 35)).alloc (.cells #[.slice a' n' c',.slice b' m' d'] 35)).heap[w.heap.size+1]? = some (.cells #[.slice a' n' c',.slice b' m' d'] 35 (0,0))):=hd_ (by have h9:=aj_ (w.alloc (.cells #[.slice a n c,.slice b m d] 35)) #[.slice a' n' c',.slice b' m' d'] 35;rwa [aq_] at h9)
 have FU:=hd_ (hU.later HB.out)
 have FV:=hd_ (hV.later HB.out)
 have FX:=hd_ (hX.later HB.out)
 have FY:=hd_ (hY.later HB.out)
 clear hU hV hX hY
 obtain⟨x0,x1,x2,x3⟩:=ay_ X0.out X1.out
 go_enter Tryz.func24,Tryz.ntmps24
 go_wp2_with fail
 refine (HZA _ FU.out FV.out).mono ?_
 rintro e w1 ⟨rfl,bw⟩
 clear x0 x1 x2 x3
 replace HB:=bt_ HB bw
 replace X0:=bl_ X0 bw
 replace X1:=bl_ X1 bw
 replace FU:=FU.l_ bw
 replace FV:=FV.l_ bw
 replace FX:=FX.l_ bw
 replace FY:=FY.l_ bw
 clear bw
 obtain⟨x0,x1,x2,x3⟩:=ay_ X0.out X1.out
 go_wp2_with fail
 refine (HZB _ FX.out FY.out).mono ?_
 rintro e w2 ⟨rfl,bw⟩
 clear x0 x1 x2 x3
 replace HB:=bt_ HB bw
 replace X0:=bl_ X0 bw
 replace X1:=bl_ X1 bw
 replace FU:=FU.l_ bw
 replace FV:=FV.l_ bw
 replace FX:=FX.l_ bw
 replace FY:=FY.l_ bw
 clear bw
 obtain⟨x0,x1,x2,x3⟩:=ay_ X0.out X1.out
 go_wp2_with fail
 refine (HZA _ FU.out FV.out).mono ?_
 rintro e w3 ⟨rfl,bw⟩
 clear x0 x1 x2 x3
 replace HB:=bt_ HB bw
 replace X0:=bl_ X0 bw
 replace X1:=bl_ X1 bw
 replace FU:=FU.l_ bw
 replace FV:=FV.l_ bw
 replace FX:=FX.l_ bw
 replace FY:=FY.l_ bw
 clear bw
 obtain⟨x0,x1,x2,x3⟩:=ay_ X0.out X1.out
 go_wp2
 go_ret
 exact⟨rfl,HB.out⟩
theorem n0_(a:OA_)(n c:Nat)(b:OA_)(m d:Nat)(U V:LR_)(N:Nat)(a':OA_)(n' c':Nat)(b':OA_)(m' d':Nat)(X Y:LR_)(K:Nat)(w:World)(hU:Pv w a n c U N)(hV:Pv w b m d V N)(hX:Pv w a' n' c' X K)(hY:Pv w b' m' d' Y K)(P Q:LR_)(r:Bool)(HZA:∀w':World,Pv w' a n c U N→Pv w' b m d V N→Calls Tryz.prog 23 #[.agg #[.slice a n c,.slice b m d]] w' (bg_ (.bool false) w'))(HZB:∀w':World,Pv w' a' n' c' X K→Pv w' b' m' d' Y K→Calls Tryz.prog 23 #[.agg #[.slice a' n' c',.slice b' m' d']] w' (bg_ (.bool false) w'))
 (HM1:∀w':World,Pv w' a n c U N→Pv w' b' m' d' Y K→Calls Tryz.prog 75 #[.slice a n c,.slice b' m' d'] w' (ds_ P w')) (HM2:∀w':World,Pv w' a' n' c' X K→Pv w' b m d V N→Calls Tryz.prog 75 #[.slice a' n' c',.slice b m d] w' (ds_ Q w'))
 (HSA:∀(w':World) (a3:OA_) (n3 c3:Nat) (a4:OA_) (n4 c4:Nat),Rw w' a3 n3 c3 P→Rw w' a4 n4 c4 Q→Calls Tryz.prog 74 #[.slice a3 n3 c3,.slice a4 n4 c4] w' (bg_ (.bool r) w')):Calls Tryz.prog 24 #[.agg #[.slice a n c,.slice b m d],.agg #[.slice a' n' c',.slice b' m' d']] w (bg_ (.bool r) w):=by
 have HB:=hd_ (ab_ (aa_ w (.cells #[.slice a n c,.slice b m d] 35)) (aa_ _ (.cells #[.slice a' n' c',.slice b' m' d'] 35)))
 have X0:Hid (((w.alloc (.cells #[.slice a n c,.slice b m d] 35)).alloc (.cells #[.slice a' n' c',.slice b' m' d'] 35)).heap[w.heap.size]? = some (.cells #[.slice a n c,.slice b m d] 35 (0,0))):=hd_ (ae_ (aj_ w _ _) (aa_ _ (.cells #[.slice a' n' c',.slice b' m' d'] 35)))
 have X1:Hid (((w.alloc (.cells #[.slice a n c,.slice b m d] 35)).alloc (.cells #[.slice a' n' c',.slice b' m' d'] 35)).heap[w.heap.size+1]? = some (.cells #[.slice a' n' c',.slice b' m' d'] 35 (0,0))):=hd_ (by have h9:=aj_ (w.alloc (.cells #[.slice a n c,.slice b m d] 35)) #[.slice a' n' c',.slice b' m' d'] 35;rwa [aq_] at h9)
 have FU:=hd_ (hU.later HB.out)
 have FV:=hd_ (hV.later HB.out)
 have FX:=hd_ (hX.later HB.out)
 have FY:=hd_ (hY.later HB.out)
 clear hU hV hX hY
 obtain⟨x0,x1,x2,x3⟩:=ay_ X0.out X1.out
 go_enter Tryz.func24,Tryz.ntmps24
 go_wp2_with fail
 refine (HZA _ FU.out FV.out).mono ?_
 rintro e w1 ⟨rfl,bw⟩
 clear x0 x1 x2 x3
 replace HB:=bt_ HB bw
 replace X0:=bl_ X0 bw
 replace X1:=bl_ X1 bw
 replace FU:=FU.l_ bw
 replace FV:=FV.l_ bw
 replace FX:=FX.l_ bw
 replace FY:=FY.l_ bw
 clear bw
 obtain⟨x0,x1,x2,x3⟩:=ay_ X0.out X1.out
 go_wp2_with fail
 refine (HZB _ FX.out FY.out).mono ?_
 rintro e w2 ⟨rfl,bw⟩
 clear x0 x1 x2 x3
 replace HB:=bt_ HB bw
 replace X0:=bl_ X0 bw
 replace X1:=bl_ X1 bw
 replace FU:=FU.l_ bw
 replace FV:=FV.l_ bw
 replace FX:=FX.l_ bw
 replace FY:=FY.l_ bw
 clear bw
 obtain⟨x0,x1,x2,x3⟩:=ay_ X0.out X1.out
 go_wp2
 clear x0 x1 x2 x3
 replace HB:=bt_ HB (dw_ w2)
 replace X0:Hid (w2.drew.heap[w.heap.size]? = _):=hd_ X0.out
 replace X1:Hid (w2.drew.heap[w.heap.size+1]? = _):=hd_ X1.out
 replace FU:=FU.l_ (dw_ w2)
 replace FV:=FV.l_ (dw_ w2)
 replace FX:=FX.l_ (dw_ w2)
 replace FY:=FY.l_ (dw_ w2)
 have pSn:=ay_ X0.out X1.out
 go_region_held3 (fun w'=>w'.cell? ⟨w.heap.size,0,none⟩=some (.slice a n c)∧w'.cell? ⟨w.heap.size,1,none⟩=some (.slice b m d)∧w'.cell? ⟨w.heap.size+1,0,none⟩=some (.slice a' n' c')∧w'.cell? ⟨w.heap.size+1,1,none⟩=some (.slice b' m' d')) (exact pSn)
  (first
  | (go_at_call 75;(first
    | (have pm1:=pM1;refine (HM2 _ FX.out FV.out).mono ?_;rintro e wp2 ⟨a22,n22,c22,rfl,h22,b⟩;replace HB:=bt_ HB b;replace X0:=bl_ X0 b;replace X1:=bl_ X1 b;replace FU:=FU.l_ b;replace FV:=FV.l_ b;replace FX:=FX.l_ b;replace FY:=FY.l_ b;replace P3:=P3.l_ b;have P4:=hd_ h22;clear h22;clear b;clear pSn;have pSn:=ay_ X0.out X1.out;clear pM1 pm1;have pM2:=True.intro)
    | (refine (HM1 _ FU.out FY.out).mono ?_;rintro e wp1 ⟨a21,n21,c21,rfl,h21,b⟩;replace HB:=bt_ HB b;replace X0:=bl_ X0 b;replace X1:=bl_ X1 b;replace FU:=FU.l_ b;replace FV:=FV.l_ b;replace FX:=FX.l_ b;replace FY:=FY.l_ b;have P3:=hd_ h21;clear h21;clear b;clear pSn;have pSn:=ay_ X0.out X1.out;have pM1:=True.intro)))
  | (go_at_call 74;(first
    | (have pm2:=pM2;refine (HSA _ _ _ _ _ _ _ P3.out P4.out).mono ?_;rintro e wp3 ⟨rfl,b⟩;replace HB:=bt_ HB b;replace X0:=bl_ X0 b;replace X1:=bl_ X1 b;replace FU:=FU.l_ b;replace FV:=FV.l_ b;replace FX:=FX.l_ b;replace FY:=FY.l_ b;replace P3:=P3.l_ b;clear P4;clear b;clear pSn;have pSn:=ay_ X0.out X1.out;clear pM2 pm2;have pM3:=True.intro))))
 go_wp2
 go_ret
 exact⟨rfl,HB.out⟩
theorem ratf_same(S:PolySaid)(a:OA_)(n c:Nat)(b:OA_)(m d:Nat)(u v:LR_)(h s:Nat)(a':OA_)(n' c':Nat)(b':OA_)(m' d':Nat)(x y:LR_)(k t:Nat)(w:World)(hA:Fv w a n c b m d u v h s)(hB:Fv w a' n' c' b' m' d' x y k t)(hk:Fok h s)(hk2:Fok k t)(hb:(h+k+1) * (s+t+20)≤1900000000):Calls Tryz.prog 24 #[.agg #[.slice a n c,.slice b m d],.agg #[.slice a' n' c',.slice b' m' d']] w (bg_ (.bool (decide (u=x∧v=y))) w):=by
 obtain⟨U,V,hU,hV,hf,hz,_⟩:=hA
 obtain⟨X,Y,hX,hY,hg,hy,_⟩:=hB
 obtain⟨s1,s2⟩:=ml_ hk
 obtain⟨t1,t2⟩:=ml_ hk2
 have lU:=hz.lu
 have lV:=hz.lv
 have lX:=hy.lu
 have lY:=hy.lv
 rw[hU.len] at lU
 rw[hV.len] at lV
 rw[hX.len] at lX
 rw[hY.len] at lY
 have HZA:=fun (w':World) (g1:Pv w' a n c U (s+2)) (g2:Pv w' b m d V (s+2))=>j3_ S a n c b m d U V (s+2) w' g1 g2 (by omega) (by omega) (by omega)
 have HZB:=fun (w':World) (g1:Pv w' a' n' c' X (t+2)) (g2:Pv w' b' m' d' Y (t+2))=>j3_ S a' n' c' b' m' d' X Y (t+2) w' g1 g2 (by omega) (by omega) (by omega)
 by_cases h1:plen U=0∨plen V=0
 ·have hu:=(hf.zero h1).1
  have hv:=(hf.zero h1).2
  have hr:decide (u=x∧v=y)=decide (plen X=0∨plen Y=0):=decide_eq_decide.2 ⟨fun e=>hg.none_iff.2 (by rw[←e.1,hu]),fun e=>by have:=hg.zero e;exact⟨by rw[hu,this.1],by rw[hv,this.2]⟩⟩
  rw[hr]
  exact pi_ a n c b m d U V (s+2) a' n' c' b' m' d' X Y (t+2) w hU hV hX hY _ (by rw[decide_eq_true h1] at HZA;exact HZA) HZB
 ·by_cases h2:plen X=0∨plen Y=0
  ·have hx:=(hg.zero h2).1
   rw[decide_eq_false (fun e=>h1 (hf.none_iff.2 (by rw[e.1,hx])):¬(u=x∧v=y))]
   exact n1_ a n c b m d U V (s+2) a' n' c' b' m' d' X Y (t+2) w hU hV hX hY (by rw[decide_eq_false h1] at HZA;exact HZA) (by rw[decide_eq_true h2] at HZB;exact HZB)
  ·have h3:plen V≠0:=fun e=>h1 (.inr e)
   have h4:plen Y≠0:=fun e=>h2 (.inr e)
   have hr:decide (u=x∧v=y)=decide (ai_ (ai_ (pmul U Y))=ai_ (ai_ (pmul X V))):=decide_eq_decide.2 ⟨fun e=>by rw[a9_,a9_];exact bn_ ((hf.same_iff hg h3 h4).2 e),fun e=>(hf.same_iff hg h3 h4).1 (by rw[a9_,a9_] at e;exact pnorm_iff.1 e)⟩
   rw[hr]
   have hn1:(n+1) * (s+2+(t+2)+8)≤1900000000:=Nat.le_trans (Nat.mul_le_mul (by omega) (by omega)) hb
   have hn2:(n'+1) * (t+2+(s+2)+8)≤1900000000:=Nat.le_trans (Nat.mul_le_mul (by omega) (by omega)) hb
   have q1:∀z∈ai_ (pmul U Y),qlen z≤1900000000:=fun z hz9=>by
    have e1:=ko_ (A:=s+2) (B:=t+2) (by omega) (by omega) hz.qlen hy.swap.qlen z hz9
    have e2:U.length * (s+2+(t+2)+3)≤n * (s+2+(t+2)+8):=Nat.mul_le_mul (by rw[hU.len];exact Nat.le_refl _) (by omega)
    rw[Nat.add_mul,Nat.one_mul] at hn1
    omega
   have q2:∀z∈ai_ (pmul X V),qlen z≤1900000000:=fun z hz9=>by
    have e1:=ko_ (A:=t+2) (B:=s+2) (by omega) (by omega) hy.qlen hz.swap.qlen z hz9
    have e2:X.length * (t+2+(s+2)+3)≤n' * (t+2+(s+2)+8):=Nat.mul_le_mul (by rw[hX.len];exact Nat.le_refl _) (by omega)
    rw[Nat.add_mul,Nat.one_mul] at hn2
    omega
   have l1:(ai_ (pmul U Y)).length≤300:=by
    have:=bf_ (pmul U Y);have:=c7_ U Y;have:=hU.len;have:=hY.len;omega
   have l2:(ai_ (pmul X V)).length≤300:=by
    have:=bf_ (pmul X V);have:=c7_ X V;have:=hX.len;have:=hV.len;omega
   exact n0_ a n c b m d U V (s+2) a' n' c' b' m' d' X Y (t+2) w hU hV hX hY (ai_ (pmul U Y)) (ai_ (pmul X V)) _ (by rw[decide_eq_false h1] at HZA;exact HZA) (by rw[decide_eq_false h2] at HZB;exact HZB) (fun w' g1 g2=>k3_ S g1 g2 (by omega) (by omega) hn1) (fun w' g1 g2=>k3_ S g1 g2 (by omega) (by omega) hn2) (fun w' a3 n3 c3 a4 n4 c4 g1 g2=>same_pv S (Pv.right g1 q1) (Pv.right g2 q2) (by rw[←g1.len];exact l1) (by rw[←g2.len];exact l2) (Nat.le_refl _) (Nat.le_refl _))
theorem turned_fv(S:PolySaid)(FS:FracSaid)(a:OA_)(n c:Nat)(b:OA_)(m d:Nat)(u v:LR_)(h s:Nat)(w:World)(hF:Fv w a n c b m d u v h s)(hs:s+2≤900000000)(hh:h≤50):Calls Tryz.prog 82 #[.agg #[.slice a n c,.slice b m d]] w (LstH (ag_ (-1) u) v h s w):=by
 obtain⟨U,V,hU,hV,hf,hz,hz2⟩:=hF
 refine (o7_ S FS a n c b m d U V (s+2) w hU hV hz.qlen (by omega) hs (by rw[←hU.len];have:=hz.lu;omega)).mono fun e w' h9=>?_
 obtain⟨a1,n1,c1,b1,m1,d1,g1,g2,g3,g4⟩:=h9
 exact⟨a1,n1,c1,b1,m1,d1,g1,⟨_,_,g2,g3,hf.minus.of (au_ _).symm (peq.refl _),hz.minus.same (au_ _).symm (peq.refl _) (Nat.le_trans (bf_ _) (by rw[a5_];exact hz.lu)) hz.lv,hz2.minus⟩,g4⟩
theorem ratf_sub(S:PolySaid)(FS:FracSaid)(a:OA_)(n c:Nat)(b:OA_)(m d:Nat)(u v:LR_)(h s:Nat)(a':OA_)(n' c':Nat)(b':OA_)(m' d':Nat)(x y:LR_)(k t:Nat)(w:World)(hA:Fv w a n c b m d u v h s)(hB:Fv w a' n' c' b' m' d' x y k t)(hk:Fok2 h s k t):Calls Tryz.prog 37 #[.agg #[.slice a n c,.slice b m d],.agg #[.slice a' n' c',.slice b' m' d']] w (LstF (psub (pmul u y) (pmul x v)) (pmul v y) w):=by
 obtain⟨s1,s2⟩:=ml_ hk.1
 have HTU:∀w':World,Fv w' a' n' c' b' m' d' x y k t→Calls Tryz.prog 82 #[.agg #[.slice a' n' c',.slice b' m' d']] w' (LstH (ag_ (-1) x) y k t w'):=fun w' g=>turned_fv S FS a' n' c' b' m' d' x y k t w' g (by omega) (by omega)
 have HAD:∀(w':World) (a1:OA_) (n1 c1:Nat) (b1:OA_) (m1 d1:Nat),Fv w' a n c b m d u v h s→Fv w' a1 n1 c1 b1 m1 d1 (ag_ (-1) x) y k t→Calls Tryz.prog 35 #[.agg #[.slice a n c,.slice b m d],.agg #[.slice a1 n1 c1,.slice b1 m1 d1]] w' (LstF (psub (pmul u y) (pmul x v)) (pmul v y) w'):=fun w' a1 n1 c1 b1 m1 d1 g1 g2=>(py_ S FS a n c b m d u v h s a1 n1 c1 b1 m1 d1 _ y k t w' g1 g2 hk).mono fun e w2 h9=>by
  obtain⟨a4,n4,c4,x4,b4,m4,d4,y4,k1,k2,k3,k4,k5⟩:=h9
  exact⟨a4,n4,c4,x4,b4,m4,d4,y4,k1,k2,k3,k4.of (ao_ fun z=>by rw[av_,b2_,ac_,ac_,ac_,an_];grind) (peq.refl _),k5⟩
 generalize ag_ (-1) x=rx9 at *
 have HB:=hd_ (ab_ (ab_ (aa_ w (.cells #[.slice a n c,.slice b m d] 35)) (aa_ _ (.cells #[.slice a' n' c',.slice b' m' d'] 35))) (aa_ _ (.cells #[.slice none 0 0,.slice none 0 0] 35)))
 have X0:Hid ((((w.alloc (.cells #[.slice a n c,.slice b m d] 35)).alloc (.cells #[.slice a' n' c',.slice b' m' d'] 35)).alloc (.cells #[.slice none 0 0,.slice none 0 0] 35)).heap[w.heap.size]? = some (.cells #[.slice a n c,.slice b m d] 35 (0,0))):=hd_ (ae_ (ae_ (aj_ w _ _) (aa_ _ (.cells #[.slice a' n' c',.slice b' m' d'] 35))) (aa_ _ (.cells #[.slice none 0 0,.slice none 0 0] 35)))
 have X1:Hid ((((w.alloc (.cells #[.slice a n c,.slice b m d] 35)).alloc (.cells #[.slice a' n' c',.slice b' m' d'] 35)).alloc (.cells #[.slice none 0 0,.slice none 0 0] 35)).heap[w.heap.size+1]? = some (.cells #[.slice a' n' c',.slice b' m' d'] 35 (0,0))):=hd_ (ae_ (by have h9:=aj_ (w.alloc (.cells #[.slice a n c,.slice b m d] 35)) #[.slice a' n' c',.slice b' m' d'] 35;rwa [aq_] at h9) (aa_ _ (.cells #[.slice none 0 0,.slice none 0 0] 35)))
 have R0:Hid ((((w.alloc (.cells #[.slice a n c,.slice b m d] 35)).alloc (.cells #[.slice a' n' c',.slice b' m' d'] 35)).alloc (.cells #[.slice none 0 0,.slice none 0 0] 35)).heap[w.heap.size+1+1]? = some (.cells #[.slice none 0 0,.slice none 0 0] 35 (0,0))):=hd_ (by have h9:=aj_ ((w.alloc (.cells #[.slice a n c,.slice b m d] 35)).alloc (.cells #[.slice a' n' c',.slice b' m' d'] 35)) #[.slice none 0 0,.slice none 0 0] 35;rwa [aq_,aq_] at h9)
 have FA:=hd_ (hA.later HB.out)
 have FB:=hd_ (hB.later HB.out)
 clear hA hB hk s1 s2
 go_enter Tryz.func37,Tryz.ntmps37
 go_wp2
 generalize (((w.alloc (.cells #[.slice a n c,.slice b m d] 35)).alloc (.cells #[.slice a' n' c',.slice b' m' d'] 35)).alloc (.cells #[.slice none 0 0,.slice none 0 0] 35))=W at *
 replace HB:=bt_ HB (dw_ W)
 replace X0:Hid (W.drew.heap[w.heap.size]? = _):=hd_ X0.out
 replace X1:Hid (W.drew.heap[w.heap.size+1]? = _):=hd_ X1.out
 replace R0:Hid (W.drew.heap[w.heap.size+1+1]? = some (.cells #[.slice none 0 0,.slice none 0 0] 35 (0,0))):=hd_ R0.out
 replace FA:=FA.l_ (dw_ W)
 replace FB:=FB.l_ (dw_ W)
 have pSn:=ay_ X0.out X1.out
 go_region_held3 (fun w'=>w'.cell? ⟨w.heap.size,0,none⟩=some (.slice a n c)∧w'.cell? ⟨w.heap.size,1,none⟩=some (.slice b m d)∧w'.cell? ⟨w.heap.size+1,0,none⟩=some (.slice a' n' c')∧w'.cell? ⟨w.heap.size+1,1,none⟩=some (.slice b' m' d')) (first | exact pSn | exact pSb _ _)
  (first
  | (go_at_call 82;(first
    | (refine (HTU _ FB.out).mono ?_;rintro e wp1 ⟨a1,n1,c1,b1,m1,d1,rfl,h1,b⟩;replace HB:=bt_ HB b;replace X0:=bl_ X0 b;replace X1:=bl_ X1 b;replace R0:=bl_ R0 b;replace FA:=FA.l_ b;replace FB:=FB.l_ b;have FB9:=hd_ h1;clear h1;clear b;clear pSn;have pSn:=ay_ X0.out X1.out;have pM1:=True.intro)))
  | (go_at_call 35;(first
    | (have pm1:=pM1;refine (HAD _ _ _ _ _ _ _ FA.out FB9.out).mono ?_;rintro e wp2 ⟨a2,n2,c2,pu,b2,m2,d2,pv,rfl,h2,g2,k2,b⟩;replace HB:=bt_ HB b;replace X0:=bl_ X0 b;replace X1:=bl_ X1 b;replace R0:=bl_ R0 b;replace FA:=FA.l_ b;replace FB:=FB.l_ b;clear FB9;have P9:=hd_ h2;have Q9:=hd_ g2;have KF:=hd_ k2;clear h2 g2 k2;obtain⟨r0,r1⟩:=bu_ R0.out;have e0:=af_ R0.out 0;have e1:=af_ R0.out 1;have pSb:=fun u v=>ay_ (cv_ (g:=w.heap.size+1+1) X0.out (by omega) u v) (cv_ (g:=w.heap.size+1+1) X1.out (by omega) u v);clear b;clear pSn;have pSn:=ay_ X0.out X1.out;clear pM1 pm1;have pM2:=True.intro))))
 have R9:=hd_ (bk_ R0.out (.slice a2 n2 c2) (.slice b2 m2 d2))
 replace P9:=hd_ (P9.out.boxed R0.out (.slice a2 n2 c2) (.slice b2 m2 d2))
 replace Q9:=hd_ (Q9.out.boxed R0.out (.slice a2 n2 c2) (.slice b2 m2 d2))
 have G9:=hd_ (a0_ HB.out (show w.heap.size≤w.heap.size+1+1 by omega) (.slice a2 n2 c2) (.slice b2 m2 d2))
 go_wp2
 refine bodyPost_ret (results_cell_row Tryz.results37 _ _ (w.heap.size+1+1) 35 #[.slice a2 n2 c2,.slice b2 m2 d2] (0,0) _ rfl R9.out Tryz.underlying35 rfl (by kernel_rfl)) rfl ?_
 exact⟨a2,n2,c2,pu,b2,m2,d2,pv,rfl,P9.out,Q9.out,KF.out,G9.out⟩
theorem Rf.turn{u v:List Rat}{c:Rat}(h:Rf u v)(hu:u≠[])(hc:c=1 / co u (plen u - 1)):Rf (ag_ c v) (ag_ c u)∧c≠0:=by
 have hu0:plen u≠0:=fun e=>hu (by rw[a1_ h.ur] at e;exact List.eq_nil_of_length_eq_zero e)
 have ht:=dm_ (a:=u) (n:=plen u - 1) (by omega)
 have hcu:c * co u (plen u - 1)=1:=by rw[hc];exact Rat.div_mul_cancel ht
 have hc0:c≠0:=fun e=>by rw[e,Rat.zero_mul] at hcu;exact absurd hcu (by decide)
 have hn:∀p:LR_,ai_ p=p→ai_ (ag_ c p)=ag_ c p:=fun p hp=>by
  have h1:plen (ag_ c p)=(ag_ c p).length:=by rw[ba_ hc0,a1_ hp,a5_]
  rw[db_]
  exact List.take_of_length_le (by rw[show (ai_ (ag_ c p)).length=plen (ag_ c p) from rfl,h1];exact Nat.le_refl _)
 obtain⟨s,t,hst⟩:=h.coprime
 refine ⟨⟨hn v h.vr,hn u h.ur,by rw[ba_ hc0];exact hu0,by rw[ba_ hc0,ah_];exact hcu,Cpr.sum ⟨ag_ (1 / c) t,ag_ (1 / c) s,fun x=>?_⟩⟩,hc0⟩
 have e4:1 / c * c=1:=Rat.div_mul_cancel hc0
 have e6:=hst x
 rw[an_,an_,an_,an_]
 generalize 1 / c=d at *
 have e5:d * al_ x t * (c * al_ x v)+d * al_ x s * (c * al_ x u)=d * c * (al_ x s * al_ x u+al_ x t * al_ x v):=by grind
 rw[e5,e4,e6,Rat.one_mul]
theorem isF.turn{U V u v:List Rat}{c:Rat}(h:isF U V u v)(hu:u≠[])(hc:c=1 / co u (plen u - 1)):isF V U (ag_ c v) (ag_ c u):=by
 obtain⟨h1,h2⟩:=h.1.turn hu hc
 have hn:¬(plen U=0∨plen V=0):=fun e=>hu (h.none_iff.1 e)
 refine ⟨h1,fun e=>absurd (.inl e) hn,fun _=>ao_ fun x=>?_⟩
 have e1:=ak_ x (h.2.2 (fun e=>hn (.inr e)))
 rw[ac_,ac_] at e1
 rw[ac_,ac_,an_,an_];grind
theorem Fz.turn{u v:List Rat}{h s:Nat}{c:Rat}(f:Fz u v h s)(hr:Rf u v)(hu:u≠[])(hc:c=1 / co u (plen u - 1)):Fz (ag_ c v) (ag_ c u) h s:=by
 obtain⟨a,b,d,d1,d2,d3,d4⟩:=f
 have hu0:plen u≠0:=fun e=>hu (by rw[a1_ hr.ur] at e;exact List.eq_nil_of_length_eq_zero e)
 have ht:=dm_ (a:=u) (n:=plen u - 1) (by omega)
 have hcu:c * co u (plen u - 1)=1:=by rw[hc];exact Rat.div_mul_cancel ht
 obtain⟨z,z1,z2⟩:=d3 (plen u - 1)
 rw[ah_] at z1
 have hd0:=nat_nz d1
 have hz0:z≠0:=fun e=>by
  rw[e] at z1
  rcases Rat.mul_eq_zero.1 z1 with g | g
  ·exact hd0 g
  ·exact ht g
 have hzc:(z:Rat) * c=((d:Nat):Rat):=by
  rw[←z1,Rat.mul_assoc,Rat.mul_comm (co u (plen u - 1)) c,hcu,Rat.mul_one]
 have hv:∀p:LR_,Ints (ag_ ((d:Nat):Rat) p) (pw s)→Ints (ag_ (z:Rat) (ag_ c p)) (pw s):=fun p hp=>hp.congr (fun i=>by rw[ah_,ah_,ah_,←hzc,Rat.mul_assoc])
 exact⟨by rw[a5_];exact b,by rw[a5_];exact a,z.natAbs,by omega,z2,(hv v d4).abs,(hv u d3).abs⟩
theorem Fv.turn{w:World}{a:Option Addr}{n c:Nat}{b:Option Addr}{m d:Nat}{u v:List Rat}{h s:Nat}{k:Rat}(f:Fv w a n c b m d u v h s)(hu:u≠[])(hc:k=1 / co u (plen u - 1)):Fv w b m d a n c (ag_ k v) (ag_ k u) h s:=by
 obtain⟨U,V,h1,h2,hf,hz,hz2⟩:=f
 exact⟨V,U,h2,h1,hf.turn hu hc,hz.swap,hz2.turn hf.1 hu hc⟩
theorem quo_form{u v x y A D:List Rat}{c:Rat}(h:isF (pmul u (ag_ c y)) (pmul v (ag_ c x)) A D)(hc:c≠0)(hv:plen v≠0)(hx:plen x≠0):isF (pmul u y) (pmul v x) A D:=by
 have hx2:plen (ag_ c x)≠0:=by rw[ba_ hc];exact hx
 refine h.cross (hb_ hv hx2) (hb_ hv hx) (ao_ fun z=>?_)
 rw[ac_,ac_,ac_,ac_,ac_,ac_,an_,an_];grind
theorem ob_(S:PolySaid)(a:OA_)(n c:Nat)(b:OA_)(m d:Nat)(u v:LR_)(h s:Nat)(w:World)(hA:Fv w a n c b m d u v h s)(hs:s+2≤1900000000)(hh:h≤50):Calls Tryz.prog 23 #[.agg #[.slice a n c,.slice b m d]] w (bg_ (.bool (decide (u=[]))) w):=by
 obtain⟨U,V,hU,hV,hf,hz,_⟩:=hA
 have h9:=j3_ S a n c b m d U V (s+2) w hU hV (by rw[←hU.len];have:=hz.lu;omega) (by rw[←hV.len];have:=hz.lv;omega) hs
 rwa [show decide (plen U=0∨plen V=0)=decide (u=[]) from decide_eq_decide.2 hf.none_iff] at h9
theorem oy_(S:PolySaid)(FS:FracSaid)(a:OA_)(n c:Nat)(b:OA_)(m d:Nat)(h s:Nat)(a':OA_)(n' c':Nat)(b':OA_)(m' d':Nat)(x y:LR_)(k t:Nat)(w:World)(hB:Fv w a' n' c' b' m' d' x y k t)(hk:Fok2 h s k t)(hx0:x=[]):Calls Tryz.prog 29 #[.agg #[.slice a n c,.slice b m d],.agg #[.slice a' n' c',.slice b' m' d']] w (LstEV [] [1] (.bool false) w):=by
 obtain⟨s1,s2⟩:=ml_ hk.1
 have HZE:∀w':World,Fv w' a' n' c' b' m' d' x y k t→Calls Tryz.prog 23 #[.agg #[.slice a' n' c',.slice b' m' d']] w' (bg_ (.bool true) w'):=fun w' g=>by
  have h9:=ob_ S a' n' c' b' m' d' x y k t w' g (by omega) (by omega)
  rwa [decide_eq_true hx0] at h9
 obtain⟨z0,hz0⟩:∃q:Rat,((0:Int):Rat)=q:=⟨_,rfl⟩
 have hz00:z0=0:=by rw[←hz0];rfl
 have lz:qlen z0≤2:=by rw[←hz0];exact co_ (by decide)
 have HO0:∀w':World,Calls Tryz.prog 47 #[.int .i64 0] w' (LstQ z0 w'):=fun w'=>hz0▸FS.of 0 w' (by decide)
 have HOF:∀(w':World) (a2:OA_) (n2 c2:Nat) (b2:OA_) (m2 d2:Nat),Wd w' a2 n2 c2 (dg z0.num.natAbs)→Wd w' b2 m2 d2 (dg z0.den)→Calls Tryz.prog 28 #[.agg #[.bool (zneg z0.num),.slice a2 n2 c2,.slice b2 m2 d2]] w' (LstE [] [1] w'):=fun w' a2 n2 c2 b2 m2 d2 g1 g2=>by
  have h9:=ol_ S FS _ z0 2 w' (Fr.right g1 g2 (by have:=g1.len;have:=bd_ z0;omega) (by have:=g2.len;have:=bc_ z0;omega)) (by decide) (Nat.le_refl 2)
  rwa [show ai_ [z0,0]=[] by rw[hz00];decide +kernel] at h9
 clear hz0 hz00 lz
 have HB:=hd_ (ab_ (ab_ (aa_ w (.cells #[.slice a n c,.slice b m d] 35)) (aa_ _ (.cells #[.slice a' n' c',.slice b' m' d'] 35))) (aa_ _ (.cells #[.slice none 0 0,.slice none 0 0] 35)))
 have X0:Hid ((((w.alloc (.cells #[.slice a n c,.slice b m d] 35)).alloc (.cells #[.slice a' n' c',.slice b' m' d'] 35)).alloc (.cells #[.slice none 0 0,.slice none 0 0] 35)).heap[w.heap.size]? = some (.cells #[.slice a n c,.slice b m d] 35 (0,0))):=hd_ (ae_ (ae_ (aj_ w _ _) (aa_ _ (.cells #[.slice a' n' c',.slice b' m' d'] 35))) (aa_ _ (.cells #[.slice none 0 0,.slice none 0 0] 35)))
 have X1:Hid ((((w.alloc (.cells #[.slice a n c,.slice b m d] 35)).alloc (.cells #[.slice a' n' c',.slice b' m' d'] 35)).alloc (.cells #[.slice none 0 0,.slice none 0 0] 35)).heap[w.heap.size+1]? = some (.cells #[.slice a' n' c',.slice b' m' d'] 35 (0,0))):=hd_ (ae_ (by have h9:=aj_ (w.alloc (.cells #[.slice a n c,.slice b m d] 35)) #[.slice a' n' c',.slice b' m' d'] 35;rwa [aq_] at h9) (aa_ _ (.cells #[.slice none 0 0,.slice none 0 0] 35)))
 have R0:Hid ((((w.alloc (.cells #[.slice a n c,.slice b m d] 35)).alloc (.cells #[.slice a' n' c',.slice b' m' d'] 35)).alloc (.cells #[.slice none 0 0,.slice none 0 0] 35)).heap[w.heap.size+1+1]? = some (.cells #[.slice none 0 0,.slice none 0 0] 35 (0,0))):=hd_ (by have h9:=aj_ ((w.alloc (.cells #[.slice a n c,.slice b m d] 35)).alloc (.cells #[.slice a' n' c',.slice b' m' d'] 35)) #[.slice none 0 0,.slice none 0 0] 35;rwa [aq_,aq_] at h9)
 have FB:=hd_ (hB.later HB.out)
 have x0:=ad_ X1.out 0
 have x1:=ad_ X1.out 1
 simp only[List.getElem?_toArray,List.getElem?_cons_zero,List.getElem?_cons_succ] at x0 x1
 clear hB hk s1 s2 hx0
 go_enter Tryz.func29,Tryz.ntmps29
 go_wp2_with fail
 refine (HZE _ FB.out).mono ?_
 rintro e w1 ⟨rfl,b⟩
 clear x0 x1 HZE FB X0 X1
 replace HB:=bt_ HB b
 replace R0:=bl_ R0 b
 clear b
 go_wp2_with fail
 refine (HO0 _).mono ?_
 rintro e w2 ⟨a5,n5,c5,b5,m5,d5,rfl,h5,g5,b⟩
 replace HB:=bt_ HB b
 replace R0:=bl_ R0 b
 have Z1:=hd_ h5
 have Z2:=hd_ g5
 clear h5 g5 b HO0
 unfold frV
 go_wp2_with fail
 refine (HOF _ _ _ _ _ _ _ Z1.out Z2.out).mono ?_
 rintro e w3 ⟨a6,n6,c6,b6,m6,d6,rfl,h6,g6,b⟩
 replace HB:=bt_ HB b
 replace R0:=bl_ R0 b
 have P9:=hd_ h6
 have Q9:=hd_ g6
 clear h6 g6 b HOF Z1 Z2
 obtain⟨r0,r1⟩:=bu_ R0.out
 have e0:=af_ R0.out 0
 have e1:=af_ R0.out 1
 have R9:=hd_ (bk_ R0.out (.slice a6 n6 c6) (.slice b6 m6 d6))
 replace P9:=hd_ (P9.out.boxed R0.out (.slice a6 n6 c6) (.slice b6 m6 d6))
 replace Q9:=hd_ (Q9.out.boxed R0.out (.slice a6 n6 c6) (.slice b6 m6 d6))
 have G9:=hd_ (a0_ HB.out (show w.heap.size≤w.heap.size+1+1 by omega) (.slice a6 n6 c6) (.slice b6 m6 d6))
 go_wp2
 refine bodyPost_ret (bi_ Tryz.results29 _ _ (w.heap.size+1+1) 35 #[.slice a6 n6 c6,.slice b6 m6 d6] (0,0) _ rfl R9.out Tryz.underlying35 rfl (by kernel_rfl)) rfl ?_
 exact⟨a6,n6,c6,b6,m6,d6,rfl,P9.out,Q9.out,G9.out⟩
theorem nw_(S:PolySaid)(FS:FracSaid)(a:OA_)(n c:Nat)(b:OA_)(m d:Nat)(u v:LR_)(h s:Nat)(a':OA_)(n' c':Nat)(b':OA_)(m' d':Nat)(x y:LR_)(k t:Nat)(w:World)(hA:Fv w a n c b m d u v h s)(hB:Fv w a' n' c' b' m' d' x y k t)(hk:Fok2 h s k t)(hx0:x≠[]):Calls Tryz.prog 29 #[.agg #[.slice a n c,.slice b m d],.agg #[.slice a' n' c',.slice b' m' d']] w (LstFV (pmul u y) (pmul v x) (.bool true) w):=by
 obtain⟨s1,s2⟩:=ml_ hk.1
 have hxr:=hB.rf
 have hv0:=hA.rf.v0
 have hxp:plen x≠0:=fun e=>hx0 (by rw[a1_ hxr.ur] at e;exact List.eq_nil_of_length_eq_zero e)
 have HZE:∀w':World,Fv w' a' n' c' b' m' d' x y k t→Calls Tryz.prog 23 #[.agg #[.slice a' n' c',.slice b' m' d']] w' (bg_ (.bool false) w'):=fun w' g=>by
  have h9:=ob_ S a' n' c' b' m' d' x y k t w' g (by omega) (by omega)
  rwa [decide_eq_false hx0] at h9
 have HMU:∀w':World,Fv w' a n c b m d u v h s→Fv w' a' n' c' b' m' d' x y k t→Calls Tryz.prog 38 #[.agg #[.slice a n c,.slice b m d],.agg #[.slice b' m' d',.slice a' n' c']] w' (LstF (pmul u y) (pmul v x) w'):=fun w' g1 g2=>(pq_ S FS a n c b m d u v h s b' m' d' a' n' c' _ _ k t w' g1 (g2.turn hx0 rfl) hk).mono fun e w2 h9=>by
  obtain⟨a4,n4,c4,x4,b4,m4,d4,y4,k1,k2,k3,k4,k5⟩:=h9
  exact⟨a4,n4,c4,x4,b4,m4,d4,y4,k1,k2,k3,quo_form k4 (hxr.turn hx0 rfl).2 hv0 hxp,k5⟩
 have HB:=hd_ (ab_ (ab_ (aa_ w (.cells #[.slice a n c,.slice b m d] 35)) (aa_ _ (.cells #[.slice a' n' c',.slice b' m' d'] 35))) (aa_ _ (.cells #[.slice none 0 0,.slice none 0 0] 35)))
 have X0:Hid ((((w.alloc (.cells #[.slice a n c,.slice b m d] 35)).alloc (.cells #[.slice a' n' c',.slice b' m' d'] 35)).alloc (.cells #[.slice none 0 0,.slice none 0 0] 35)).heap[w.heap.size]? = some (.cells #[.slice a n c,.slice b m d] 35 (0,0))):=hd_ (ae_ (ae_ (aj_ w _ _) (aa_ _ (.cells #[.slice a' n' c',.slice b' m' d'] 35))) (aa_ _ (.cells #[.slice none 0 0,.slice none 0 0] 35)))
 have X1:Hid ((((w.alloc (.cells #[.slice a n c,.slice b m d] 35)).alloc (.cells #[.slice a' n' c',.slice b' m' d'] 35)).alloc (.cells #[.slice none 0 0,.slice none 0 0] 35)).heap[w.heap.size+1]? = some (.cells #[.slice a' n' c',.slice b' m' d'] 35 (0,0))):=hd_ (ae_ (by have h9:=aj_ (w.alloc (.cells #[.slice a n c,.slice b m d] 35)) #[.slice a' n' c',.slice b' m' d'] 35;rwa [aq_] at h9) (aa_ _ (.cells #[.slice none 0 0,.slice none 0 0] 35)))
 have R0:Hid ((((w.alloc (.cells #[.slice a n c,.slice b m d] 35)).alloc (.cells #[.slice a' n' c',.slice b' m' d'] 35)).alloc (.cells #[.slice none 0 0,.slice none 0 0] 35)).heap[w.heap.size+1+1]? = some (.cells #[.slice none 0 0,.slice none 0 0] 35 (0,0))):=hd_ (by have h9:=aj_ ((w.alloc (.cells #[.slice a n c,.slice b m d] 35)).alloc (.cells #[.slice a' n' c',.slice b' m' d'] 35)) #[.slice none 0 0,.slice none 0 0] 35;rwa [aq_,aq_] at h9)
 have FA:=hd_ (hA.later HB.out)
 have FB:=hd_ (hB.later HB.out)
 obtain⟨x0,x1,x2,x3⟩:=ay_ X0.out X1.out
 generalize pmul u y=pu at *
 generalize pmul v x=pv at *
 clear hA hB hk s1 s2 hx0 hxr hv0 hxp
 go_enter Tryz.func29,Tryz.ntmps29
 go_wp2_with fail
 refine (HZE _ FB.out).mono ?_
 rintro e w1 ⟨rfl,b⟩
 clear x0 x1 x2 x3 HZE
 replace HB:=bt_ HB b
 replace R0:=bl_ R0 b
 replace X0:=bl_ X0 b
 replace X1:=bl_ X1 b
 replace FA:=FA.l_ b
 replace FB:=FB.l_ b
 clear b
 obtain⟨x0,x1,x2,x3⟩:=ay_ X0.out X1.out
 go_wp2_with fail
 refine (HMU _ FA.out FB.out).mono ?_
 rintro e w2 ⟨a2,n2,c2,qu,b2,m2,d2,qv,rfl,h2,g2,k2,b⟩
 clear x0 x1 x2 x3 HMU FA FB X0 X1
 replace HB:=bt_ HB b
 replace R0:=bl_ R0 b
 have P9:=hd_ h2
 have Q9:=hd_ g2
 have KF:=hd_ k2
 clear h2 g2 k2 b
 obtain⟨r0,r1⟩:=bu_ R0.out
 have e0:=af_ R0.out 0
 have e1:=af_ R0.out 1
 have R9:=hd_ (bk_ R0.out (.slice a2 n2 c2) (.slice b2 m2 d2))
 replace P9:=hd_ (P9.out.boxed R0.out (.slice a2 n2 c2) (.slice b2 m2 d2))
 replace Q9:=hd_ (Q9.out.boxed R0.out (.slice a2 n2 c2) (.slice b2 m2 d2))
 have G9:=hd_ (a0_ HB.out (show w.heap.size≤w.heap.size+1+1 by omega) (.slice a2 n2 c2) (.slice b2 m2 d2))
 go_wp2
 refine bodyPost_ret (bi_ Tryz.results29 _ _ (w.heap.size+1+1) 35 #[.slice a2 n2 c2,.slice b2 m2 d2] (0,0) _ rfl R9.out Tryz.underlying35 rfl (by kernel_rfl)) rfl ?_
 exact⟨a2,n2,c2,qu,b2,m2,d2,qv,rfl,P9.out,Q9.out,KF.out,G9.out⟩
theorem l7_(S:PolySaid)(FS:FracSaid)(a:OA_)(n c:Nat)(b:OA_)(m d:Nat)(u v U V:LR_)(h s:Nat)(v9:Value)(x:Rat)(X:Nat)(w:World)(hU:Pv w a n c U (s+2))(hV:Pv w b m d V (s+2))(hf:isF U V u v)(hz:Fz U V h s)(hz2:Fz u v h s)(h9:Fr w v9 x X)(hk:Fok h s)(hb:(h+1) * ((h+1) * (X+8)+(s+3)+8)≤1900000000)(h0:al_ x V≠0):Calls Tryz.prog 16 #[.agg #[.slice a n c,.slice b m d],v9] w (di_ (al_ x u / al_ x v) (.bool true) w):=by
 obtain⟨s1,s2⟩:=ml_ hk
 have hb9:∀n:Nat,n≤h→(n+1) * ((n+1) * (X+8)+(s+2)+8)≤1900000000:=fun n hn=>Nat.le_trans (Nat.mul_le_mul (by omega) (by have:(n+1) * (X+8)≤(h+1) * (X+8):=Nat.mul_le_mul_right _ (by omega);omega)) hb
 have lU:=hz.lu
 have lV:=hz.lv
 rw[hU.len] at lU
 rw[hV.len] at lV
 have lu:=hz2.lu
 have lv:=hz2.lv
 obtain⟨s9,a9,n9,c9,l9,b9,m9,d9,k9,rfl,h91,h92,h93,h94,h95⟩:=h9
 have HX9:=hd_ h95
 have HQ1:∀w':World,Pv w' a n c U (s+2)→Pv w' b m d V (s+2)→Wd w' a9 n9 c9 l9→Wd w' b9 m9 d9 k9→Calls Tryz.prog 68 #[.agg #[.slice a n c,.slice b m d],.agg #[.bool s9,.slice a9 n9 c9,.slice b9 m9 d9]] w' (di_ (al_ x U / al_ x V) (.bool (decide (al_ x V≠0))) w'):=fun w' g1 g2 g3 g4=>fh_ S FS a n c b m d U V _ x (s+2) X w' g1 g2 (Fr.of g3 g4 h93 h94 HX9.out) (by omega) (by omega) (hb9 n lU) (hb9 m lV)
 rw[decide_eq_true h0] at HQ1
 have hval:=(hf.val h0).2
 obtain⟨r,hr⟩:∃r,al_ x U / al_ x V=r:=⟨_,rfl⟩
 rw[hval]
 rw[hr] at HQ1 ⊢
 have HB:=hd_ (ab_ (ab_ (aa_ w (.cells #[.slice a n c,.slice b m d] 35)) (aa_ _ (.cells #[.bool s9,.slice a9 n9 c9,.slice b9 m9 d9] 44))) (aa_ _ (.cells #[.bool false,.slice none 0 0,.slice none 0 0] 44)))
 have X0:Hid ((((w.alloc (.cells #[.slice a n c,.slice b m d] 35)).alloc (.cells #[.bool s9,.slice a9 n9 c9,.slice b9 m9 d9] 44)).alloc (.cells #[.bool false,.slice none 0 0,.slice none 0 0] 44)).heap[w.heap.size]? = some (.cells #[.slice a n c,.slice b m d] 35 (0,0))):=hd_ (ae_ (ae_ (aj_ w _ _) (aa_ _ (.cells #[.bool s9,.slice a9 n9 c9,.slice b9 m9 d9] 44))) (aa_ _ (.cells #[.bool false,.slice none 0 0,.slice none 0 0] 44)))
 have X1:Hid ((((w.alloc (.cells #[.slice a n c,.slice b m d] 35)).alloc (.cells #[.bool s9,.slice a9 n9 c9,.slice b9 m9 d9] 44)).alloc (.cells #[.bool false,.slice none 0 0,.slice none 0 0] 44)).heap[w.heap.size+1]? = some (.cells #[.bool s9,.slice a9 n9 c9,.slice b9 m9 d9] 44 (0,0))):=hd_ (ae_ (by have h9:=aj_ (w.alloc (.cells #[.slice a n c,.slice b m d] 35)) #[.bool s9,.slice a9 n9 c9,.slice b9 m9 d9] 44;rwa [aq_] at h9) (aa_ _ (.cells #[.bool false,.slice none 0 0,.slice none 0 0] 44)))
 have R0:Hid ((((w.alloc (.cells #[.slice a n c,.slice b m d] 35)).alloc (.cells #[.bool s9,.slice a9 n9 c9,.slice b9 m9 d9] 44)).alloc (.cells #[.bool false,.slice none 0 0,.slice none 0 0] 44)).heap[w.heap.size+1+1]? = some (.cells #[.bool false,.slice none 0 0,.slice none 0 0] 44 (0,0))):=hd_ (by have h9:=aj_ ((w.alloc (.cells #[.slice a n c,.slice b m d] 35)).alloc (.cells #[.bool s9,.slice a9 n9 c9,.slice b9 m9 d9] 44)) #[.bool false,.slice none 0 0,.slice none 0 0] 44;rwa [aq_,aq_] at h9)
 have FU:=hd_ (hU.later HB.out)
 have FV:=hd_ (hV.later HB.out)
 have F3:=hd_ (h91.later HB.out)
 have F4:=hd_ (h92.later HB.out)
 obtain⟨x0,x1,x2,x3,x4⟩:=b8_ X0.out X1.out
 clear hU hV hf hz hz2 hk hb h0 s1 s2 hb9 lU lV lu lv h91 h92 h93 h94 h95 HX9 hval hr
 go_enter Tryz.func16,Tryz.ntmps16
 unfold frV
 go_wp2_with fail
 refine (HQ1 _ FU.out FV.out F3.out F4.out).mono ?_
 rintro e w1 ⟨a5,n5,c5,b5,m5,d5,rfl,h5,g5,b⟩
 clear x0 x1 x2 x3 x4 HQ1
 unfold frV
 have ba:=aa_ w1 (.cells #[.bool (zneg r.num),.slice a5 n5 c5,.slice b5 m5 d5] 44)
 have T0:=hd_ (aj_ w1 #[.bool (zneg r.num),.slice a5 n5 c5,.slice b5 m5 d5] 44)
 have hT9:w.heap.size+1+1 < w1.heap.size:=by
  have h9:=(Array.getElem?_eq_some_iff.1 (ae_ R0.out b)).1
  exact h9
 replace HB:=hd_ (ab_ (ab_ HB.out b) ba)
 replace X0:=hd_ (ae_ (ae_ X0.out b) ba)
 replace X1:=hd_ (ae_ (ae_ X1.out b) ba)
 replace R0:=hd_ (ae_ (ae_ R0.out b) ba)
 have FA:=h5.l_ ba
 have FD:=g5.l_ ba
 clear b ba h5 g5 FU FV F3 F4 X0 X1 hT9
 have tt:=as_ T0.out
 obtain⟨t0,t1,t2⟩:=tt
 obtain⟨r0,r1,r2⟩:=as_ R0.out
 have e0:=af_ R0.out 0
 have e1:=af_ R0.out 1
 have e2:=af_ R0.out 2
 have R9:=hd_ (bm_ R0.out (.bool (zneg r.num)) (.slice a5 n5 c5) (.slice b5 m5 d5))
 have P9:=hd_ (FA.out.stored3 R0.out (zneg r.num) a5 n5 c5 (.slice b5 m5 d5))
 have Q9:=hd_ (FD.out.stored3 R0.out (zneg r.num) a5 n5 c5 (.slice b5 m5 d5))
 have G9:=hd_ (aw_ HB.out (show w.heap.size≤w.heap.size+1+1 by omega) (.bool (zneg r.num)) (.slice a5 n5 c5) (.slice b5 m5 d5))
 go_wp2
 refine bodyPost_ret (bi_ Tryz.results16 _ _ (w.heap.size+1+1) 44 #[.bool (zneg r.num),.slice a5 n5 c5,.slice b5 m5 d5] (0,0) _ rfl R9.out Tryz.underlying44 rfl (by kernel_rfl)) rfl ?_
 exact⟨a5,n5,c5,b5,m5,d5,rfl,P9.out,Q9.out,G9.out⟩
theorem hl_(S:PolySaid)(FS:FracSaid)(a:OA_)(n c:Nat)(b:OA_)(m d:Nat)(u v U V:LR_)(h s:Nat)(v9:Value)(x:Rat)(X:Nat)(w:World)(hU:Pv w a n c U (s+2))(hV:Pv w b m d V (s+2))(hf:isF U V u v)(hz:Fz U V h s)(hz2:Fz u v h s)(h9:Fr w v9 x X)(hk:Fok h s)(hb:(h+1) * ((h+1) * (X+8)+(s+3)+8)≤1900000000)(h0:al_ x V=0):Calls Tryz.prog 16 #[.agg #[.slice a n c,.slice b m d],v9] w (di_ (al_ x u / al_ x v) (.bool (decide (al_ x v≠0))) w):=by
 obtain⟨s1,s2⟩:=ml_ hk
 have hb9:∀n:Nat,n≤h→(n+1) * ((n+1) * (X+8)+(s+2)+8)≤1900000000:=fun n hn=>Nat.le_trans (Nat.mul_le_mul (by omega) (by have:(n+1) * (X+8)≤(h+1) * (X+8):=Nat.mul_le_mul_right _ (by omega);omega)) hb
 have lU:=hz.lu
 have lV:=hz.lv
 rw[hU.len] at lU
 rw[hV.len] at lV
 have lu:=hz2.lu
 have lv:=hz2.lv
 obtain⟨s9,a9,n9,c9,l9,b9,m9,d9,k9,rfl,h91,h92,h93,h94,h95⟩:=h9
 have HX9:=hd_ h95
 have HQ1:∀w':World,Pv w' a n c U (s+2)→Pv w' b m d V (s+2)→Wd w' a9 n9 c9 l9→Wd w' b9 m9 d9 k9→Calls Tryz.prog 68 #[.agg #[.slice a n c,.slice b m d],.agg #[.bool s9,.slice a9 n9 c9,.slice b9 m9 d9]] w' (di_ (al_ x U / al_ x V) (.bool (decide (al_ x V≠0))) w'):=fun w' g1 g2 g3 g4=>fh_ S FS a n c b m d U V _ x (s+2) X w' g1 g2 (Fr.of g3 g4 h93 h94 HX9.out) (by omega) (by omega) (hb9 n lU) (hb9 m lV)
 rw[decide_eq_false (by simp[h0]:¬(al_ x V≠0))] at HQ1
 obtain⟨r,hr⟩:∃r,al_ x U / al_ x V=r:=⟨_,rfl⟩
 rw[hr] at HQ1
 have HNO:∀w':World,Pv w' a n c U (s+2)→Pv w' b m d V (s+2)→Calls Tryz.prog 20 #[.agg #[.slice a n c,.slice b m d]] w' (LstE u v w'):=fun w' g1 g2=>f6_ S FS a n c b m d u v h s w' ⟨U,V,g1,g2,hf,hz,hz2⟩ hk
 obtain⟨q,hq⟩:∃r,al_ x u / al_ x v=r:=⟨_,rfl⟩
 obtain⟨bo,hbo⟩:∃r,decide (al_ x v≠0)=r:=⟨_,rfl⟩
 have HQ2:∀(w':World) (a1:OA_) (n1 c1:Nat) (b1:OA_) (m1 d1:Nat),Rw w' a1 n1 c1 u→Rw w' b1 m1 d1 v→Wd w' a9 n9 c9 l9→Wd w' b9 m9 d9 k9→Calls Tryz.prog 68 #[.agg #[.slice a1 n1 c1,.slice b1 m1 d1],.agg #[.bool s9,.slice a9 n9 c9,.slice b9 m9 d9]] w' (di_ q (.bool bo) w'):=fun w' a1 n1 c1 b1 m1 d1 g1 g2 g3 g4=>hq▸hbo▸fh_ S FS a1 n1 c1 b1 m1 d1 u v _ x (s+2) X w' (Pv.right g1 hz2.qlen) (Pv.right g2 hz2.swap.qlen) (Fr.of g3 g4 h93 h94 HX9.out) (by rw[←g1.len];omega) (by rw[←g2.len];omega) (hb9 n1 (by rw[←g1.len];exact lu)) (hb9 m1 (by rw[←g2.len];exact lv))
 rw[hq,hbo]
 have HB:=hd_ (ab_ (ab_ (aa_ w (.cells #[.slice a n c,.slice b m d] 35)) (aa_ _ (.cells #[.bool s9,.slice a9 n9 c9,.slice b9 m9 d9] 44))) (aa_ _ (.cells #[.bool false,.slice none 0 0,.slice none 0 0] 44)))
 have X0:Hid ((((w.alloc (.cells #[.slice a n c,.slice b m d] 35)).alloc (.cells #[.bool s9,.slice a9 n9 c9,.slice b9 m9 d9] 44)).alloc (.cells #[.bool false,.slice none 0 0,.slice none 0 0] 44)).heap[w.heap.size]? = some (.cells #[.slice a n c,.slice b m d] 35 (0,0))):=hd_ (ae_ (ae_ (aj_ w _ _) (aa_ _ (.cells #[.bool s9,.slice a9 n9 c9,.slice b9 m9 d9] 44))) (aa_ _ (.cells #[.bool false,.slice none 0 0,.slice none 0 0] 44)))
 have X1:Hid ((((w.alloc (.cells #[.slice a n c,.slice b m d] 35)).alloc (.cells #[.bool s9,.slice a9 n9 c9,.slice b9 m9 d9] 44)).alloc (.cells #[.bool false,.slice none 0 0,.slice none 0 0] 44)).heap[w.heap.size+1]? = some (.cells #[.bool s9,.slice a9 n9 c9,.slice b9 m9 d9] 44 (0,0))):=hd_ (ae_ (by have h9:=aj_ (w.alloc (.cells #[.slice a n c,.slice b m d] 35)) #[.bool s9,.slice a9 n9 c9,.slice b9 m9 d9] 44;rwa [aq_] at h9) (aa_ _ (.cells #[.bool false,.slice none 0 0,.slice none 0 0] 44)))
 have R0:Hid ((((w.alloc (.cells #[.slice a n c,.slice b m d] 35)).alloc (.cells #[.bool s9,.slice a9 n9 c9,.slice b9 m9 d9] 44)).alloc (.cells #[.bool false,.slice none 0 0,.slice none 0 0] 44)).heap[w.heap.size+1+1]? = some (.cells #[.bool false,.slice none 0 0,.slice none 0 0] 44 (0,0))):=hd_ (by have h9:=aj_ ((w.alloc (.cells #[.slice a n c,.slice b m d] 35)).alloc (.cells #[.bool s9,.slice a9 n9 c9,.slice b9 m9 d9] 44)) #[.bool false,.slice none 0 0,.slice none 0 0] 44;rwa [aq_,aq_] at h9)
 have FU:=hd_ (hU.later HB.out)
 have FV:=hd_ (hV.later HB.out)
 have F3:=hd_ (h91.later HB.out)
 have F4:=hd_ (h92.later HB.out)
 obtain⟨x0,x1,x2,x3,x4⟩:=b8_ X0.out X1.out
 clear hU hV hf hz hz2 hk hb h0 s1 s2 hb9 lU lV lu lv h91 h92 h93 h94 h95 HX9 hr hq hbo
 go_enter Tryz.func16,Tryz.ntmps16
 unfold frV
 go_wp2_with fail
 refine (HQ1 _ FU.out FV.out F3.out F4.out).mono ?_
 rintro e w1 ⟨a5,n5,c5,b5,m5,d5,rfl,h5,g5,b⟩
 clear x0 x1 x2 x3 x4 HQ1
 unfold frV
 have ba:=aa_ w1 (.cells #[.bool (zneg r.num),.slice a5 n5 c5,.slice b5 m5 d5] 44)
 have T0:=hd_ (aj_ w1 #[.bool (zneg r.num),.slice a5 n5 c5,.slice b5 m5 d5] 44)
 have hT9:w.heap.size+1+1 < w1.heap.size:=by
  have h9:=(Array.getElem?_eq_some_iff.1 (ae_ R0.out b)).1
  exact h9
 replace HB:=hd_ (ab_ (ab_ HB.out b) ba)
 replace X0:=hd_ (ae_ (ae_ X0.out b) ba)
 replace X1:=hd_ (ae_ (ae_ X1.out b) ba)
 replace R0:=hd_ (ae_ (ae_ R0.out b) ba)
 have GA:=hd_ ((FU.out.later b).later ba)
 have GB:=hd_ ((FV.out.later b).later ba)
 replace F3:=hd_ ((F3.out.later b).later ba)
 replace F4:=hd_ ((F4.out.later b).later ba)
 clear b ba h5 g5 FU FV
 obtain⟨g0,hg0⟩:∃g,w1.heap.size=g:=⟨_,rfl⟩
 rw[hg0] at hT9 T0
 go_wp2
 clear hg0
 generalize (w1.alloc (.cells #[.bool (zneg r.num),.slice a5 n5 c5,.slice b5 m5 d5] 44))=W at *
 replace HB:=bt_ HB (dw_ W)
 replace X0:Hid (W.drew.heap[w.heap.size]? = _):=hd_ X0.out
 replace X1:Hid (W.drew.heap[w.heap.size+1]? = _):=hd_ X1.out
 replace R0:Hid (W.drew.heap[w.heap.size+1+1]? = some (.cells #[.bool false,.slice none 0 0,.slice none 0 0] 44 (0,0))):=hd_ R0.out
 replace T0:Hid (W.drew.heap[g0]? = some (.cells #[.bool (zneg r.num),.slice a5 n5 c5,.slice b5 m5 d5] 44 (0,0))):=hd_ T0.out
 replace GA:=GA.l_ (dw_ W)
 replace GB:=GB.l_ (dw_ W)
 replace F3:=F3.l_ (dw_ W)
 replace F4:=F4.l_ (dw_ W)
 have pSn:=b8_ X0.out X1.out
 go_region_held3 (fun w'=>w'.cell? ⟨w.heap.size,0,none⟩=some (.slice a n c)∧w'.cell? ⟨w.heap.size,1,none⟩=some (.slice b m d)∧w'.cell? ⟨w.heap.size+1,0,none⟩=some (.bool s9)∧w'.cell? ⟨w.heap.size+1,1,none⟩=some (.slice a9 n9 c9)∧w'.cell? ⟨w.heap.size+1,2,none⟩=some (.slice b9 m9 d9)) (first | exact pSn | exact pSb _ _ _)
  (first
  | (go_at_call 20;(first
    | (refine (HNO _ GA.out GB.out).mono ?_;rintro e wp1 ⟨a21,n21,c21,b21,m21,d21,rfl,h21,g21,b⟩;replace HB:=bt_ HB b;replace X0:=bl_ X0 b;replace X1:=bl_ X1 b;replace R0:=bl_ R0 b;replace T0:=bl_ T0 b;replace GA:=GA.l_ b;replace GB:=GB.l_ b;replace F3:=F3.l_ b;replace F4:=F4.l_ b;have P1:=hd_ h21;have P2:=hd_ g21;clear h21 g21;clear b;clear pSn;have pSn:=b8_ X0.out X1.out;have pM1:=True.intro)))
  | (go_at_call 68;(first
    | (have pm1:=pM1;refine (HQ2 _ _ _ _ _ _ _ P1.out P2.out F3.out F4.out).mono ?_;rintro e wp2 ⟨a22,n22,c22,b22,m22,d22,rfl,h22,g22,b⟩;replace HB:=bt_ HB b;replace X0:=bl_ X0 b;replace X1:=bl_ X1 b;replace R0:=bl_ R0 b;replace T0:=bl_ T0 b;replace GA:=GA.l_ b;replace GB:=GB.l_ b;replace F3:=F3.l_ b;replace F4:=F4.l_ b;clear P1;clear P2;have Z1:=hd_ h22;have Z2:=hd_ g22;clear h22 g22;unfold frV;obtain⟨r0,r1,r2⟩:=as_ T0.out;have e0:=af_ T0.out 0;have e1:=af_ T0.out 1;have e2:=af_ T0.out 2;have pSb:=fun u v q=>b8_ (bv_ (g:=g0) X0.out (by omega) u v q) (bv_ (g:=g0) X1.out (by omega) u v q);clear b;clear pSn;have pSn:=b8_ X0.out X1.out;clear pM1 pm1;have pM2:=True.intro))))
 have T9:=hd_ (bm_ T0.out (.bool (zneg q.num)) (.slice a22 n22 c22) (.slice b22 m22 d22))
 have RB:=hd_ (bv_ (g:=g0) R0.out (show w.heap.size+1+1≠g0 by omega) (.bool (zneg q.num)) (.slice a22 n22 c22) (.slice b22 m22 d22))
 have ZA:=hd_ (Z1.out.stored3 T0.out (zneg q.num) a22 n22 c22 (.slice b22 m22 d22))
 have ZD:=hd_ (Z2.out.stored3 T0.out (zneg q.num) a22 n22 c22 (.slice b22 m22 d22))
 have HB8:=hd_ (aw_ HB.out (show w.heap.size≤g0 by omega) (.bool (zneg q.num)) (.slice a22 n22 c22) (.slice b22 m22 d22))
 generalize hW2:(((wp2.setCell ⟨g0,0,none⟩ (.bool (zneg q.num))).setCell ⟨g0,1,none⟩ (.slice a22 n22 c22)).setCell ⟨g0,2,none⟩ (.slice b22 m22 d22))=W2 at T9 RB ZA ZD HB8
 obtain⟨t0,t1,t2⟩:=as_ T9.out
 obtain⟨y0,y1,y2⟩:=as_ RB.out
 have f0:=af_ RB.out 0
 have f1:=af_ RB.out 1
 have f2:=af_ RB.out 2
 have R9:=hd_ (bm_ RB.out (.bool (zneg q.num)) (.slice a22 n22 c22) (.slice b22 m22 d22))
 have P9:=hd_ (ZA.out.stored3 RB.out (zneg q.num) a22 n22 c22 (.slice b22 m22 d22))
 have Q9:=hd_ (ZD.out.stored3 RB.out (zneg q.num) a22 n22 c22 (.slice b22 m22 d22))
 have G9:=hd_ (aw_ HB8.out (show w.heap.size≤w.heap.size+1+1 by omega) (.bool (zneg q.num)) (.slice a22 n22 c22) (.slice b22 m22 d22))
 subst hW2
 go_wp2
 refine bodyPost_ret (bi_ Tryz.results16 _ _ (w.heap.size+1+1) 44 #[.bool (zneg q.num),.slice a22 n22 c22,.slice b22 m22 d22] (0,0) _ rfl R9.out Tryz.underlying44 rfl (by kernel_rfl)) rfl ?_
 exact⟨a22,n22,c22,b22,m22,d22,rfl,P9.out,Q9.out,G9.out⟩
theorem Fv.boxed{w:World}{a:Option Addr}{n c:Nat}{b:Option Addr}{m d:Nat}{u v:List Rat}{h s:Nat}(f:Fv w a n c b m d u v h s){g:Nat}{x y:Option Addr}{n1 c1 n2 c2:Nat}{t:TypeId}(hg:w.heap[g]? = some (.cells #[.slice x n1 c1,.slice y n2 c2] t (0,0)))(p q:Value):Fv ((w.setCell ⟨g,0,none⟩ p).setCell ⟨g,1,none⟩ q) a n c b m d u v h s:=by
 obtain⟨U,V,h1,h2,h3⟩:=f
 exact⟨U,V,h1.boxed hg p q,h2.boxed hg p q,h3⟩
theorem ppow_next(u:LR_)(k:Nat):ai_ (pmul (ai_ (ppow u k)) u)=ai_ (ppow u (k+1)):=bn_ (ax_ (au_ _) (peq.refl _))
theorem pow_mul(S:PolySaid){u v:List Rat}(f:Fz u v 3 42){k:Nat}(hk:k < 3)(w':World)(a3:OA_)(n3 c3:Nat)(a4:OA_)(n4 c4:Nat)(g1:Rw w' a3 n3 c3 (ai_ (ppow u k)))(g2:Rw w' a4 n4 c4 u):Calls Tryz.prog 75 #[.slice a3 n3 c3,.slice a4 n4 c4] w' (ds_ (ai_ (ppow u (k+1))) w'):=by
 have h1:=(f.pow (by decide) k (by omega)).norms
 have h2:=h1.lu
 have h3:=f.lu
 have e3:=g1.len
 have e4:=g2.len
 have h9:=k3_ S (Pv.right g1 (N:=200) (fun q hq=>Nat.le_trans (h1.qlen q hq) (by omega))) (Pv.right g2 (N:=200) (fun q hq=>Nat.le_trans (f.qlen q hq) (by omega))) (by omega) (by omega) (Nat.le_trans (Nat.mul_le_mul (show n3+1≤20 by omega) (Nat.le_refl _)) (by decide))
 rwa [ppow_next] at h9

def zcells:Array Value:=#[.bool false,.slice none 0 0,.slice none 0 0]
theorem lc_:∀n:Nat,(madeCells zcells (n * 3)).toList=(List.replicate n Fx.zero).flatMap Fx.cells:=by
 intro n
 refine List.ext_getElem? fun j=>?_
 have hf:=bq_ (List.replicate n Fx.zero)
 rw[List.length_replicate] at hf
 by_cases hj:j < n * 3
 ·obtain⟨q,r,rfl,hr⟩:∃q r,j=q * 3+r∧r < 3:=⟨j / 3,j % 3,by omega,by omega⟩
  have hq:q < n:=by omega
  obtain⟨c0,c1,c2⟩:=e1_ (List.replicate n Fx.zero) q (by rw[List.length_replicate];exact hq)
  have hz:(List.replicate n Fx.zero).getD q Fx.zero=Fx.zero:=by
   rw[List.getD_eq_getElem?_getD,List.getElem?_replicate];split <;> rfl
  rw[hz] at c0 c1 c2
  have hl:(madeCells zcells (n * 3)).toList[q * 3+r]? = some (zcells[r]!):=by
   have h3:(q * 3+r) % zcells.size=r:=by
    show (q * 3+r) % 3=r
    omega
   simp only[madeCells,Array.toList_map,Array.toList_range,List.getElem?_map,List.getElem?_range hj,Option.map_some,h3]
  rw[hl]
  match r,hr with
  | 0,_=>exact c0.symm
  | 1,_=>exact c1.symm
  | 2,_=>exact c2.symm
 ·rw[List.getElem?_eq_none (by rw[Array.length_toList,size_madeCells];omega),List.getElem?_eq_none (by omega)]
def HalfC (w:World) (base:Nat) (e:TypeId) (v:Value) (L:List Fx) (r:Nat):Prop:=OwnC w base e v (L ++ List.replicate r Fx.zero)∧∀x∈L,x.ok w
theorem HalfC.later{w w':World}{base:Nat}{e:TypeId}{v:Value}{L:List Fx}{r:Nat}(h:HalfC w base e v L r)(hb:Below w.heap.size w w'):HalfC w' base e v L r:=⟨h.1.later hb,fun x hx=>(h.2 x hx).later hb⟩
theorem HalfC.l_ {w w':World}{x0 x1 x2 x3 x4}(h:HalfC w x0 x1 x2 x3 x4)(b:Below w.heap.size w w'):Hid (HalfC w' x0 x1 x2 x3 x4):=Lib.hid (h.later b)
theorem HalfC.done{w:World}{base:Nat}{e:TypeId}{v:Value}{L:List Fx}(h:HalfC w base e v L 0):Cop w base e v L:=by
 obtain⟨h1,h2⟩:=h
 rw[List.replicate_zero,List.append_nil] at h1
 exact⟨h1,h2⟩
theorem q2_(w:World)(base:Nat)(e:TypeId)(n:Nat)(hn:n≤maxLen)(hb:base≤w.heap.size) :
 HalfC (w.alloc (.cells (madeCells zcells (n * 3)) e)) base e (.slice (some ⟨w.heap.size,0,none⟩) n n) [] n:=by
 have hh:=heap_alloc_new w (.cells (madeCells zcells (n * 3)) e)
 have hf:=bq_ (List.replicate n Fx.zero)
 rw[List.length_replicate] at hf
 refine ⟨⟨?_,c6_ hh ?_⟩,fun x hx=>by simp at hx⟩
 ·rw[List.nil_append,List.length_replicate]
  refine ⟨hf,.inr ⟨w.heap.size,n,madeCells zcells (n * 3),rfl,hb,hh,Nat.le_refl _,hn,size_madeCells _ _,?_⟩⟩
  rw[lc_,List.take_of_length_le (Nat.le_of_eq hf)]
 ·rw[lc_]
  exact d1_ _
theorem ca_{P:Program}(w:World){ops:Array Oper}{rest:List Oper}{o:Oper}{a:Act}{Q:Exit→Act→World→Prop}
 (hg:o.guard=none) (l c:Operand) (t:TypeId) (hop:o.op=Op.makeSlice t l c)
 (base:Nat) (e:TypeId) (i:TypeInfo) (h1:P.underlying t=some (.slice e)) (h2:P.info? e=some i) (h3:i.zero=some (.agg #[.bool false,.slice none 0 0,.slice none 0 0])) (h4:i.size=3) (h5:i.bytes=56)
 (kl kc:IntKind) (L C:Int) (n:Nat) (hl:a.eval l=.int kl L) (hc:a.eval c=.int kc C) (hL:L=(n:Int)) (hC:C=(n:Int)) (b3:n≤1000000) (b4:base≤w.heap.size)
 (hK:∀w',HalfC w' base e (.slice (some ⟨w.heap.size,0,none⟩) n n) [] n→w.grownBy w' none→w'.heap.size=w.heap.size+1→wpList P ops Q rest (a.put o.dst (.slice (some ⟨w.heap.size,0,none⟩) n n)) w') :
 wpList P ops Q (o :: rest) a w:=by
 refine wpList_plain hg fun K hK'=>?_
 have hb':(i.bytes:Int) * (n:Int)≤281474976710656:=by rw[h5];omega
 have hrun:=run_make (P:=P) w t e i _ h1 h2 h3 kl kc n n (by omega) (by omega) hb' (by omega)
 simp only[Int.toNat_natCast,h4] at hrun
 subst hL
 subst hC
 unfold Oper.wp
 simp[execOp,hop,hl,hc,hrun,Result.andThen]
 exact hK' _ _ (hK _ (q2_ w base e n (by unfold maxLen;omega) b4) (World.grownBy_alloc w _ none) (World.size_alloc _ _))
theorem pv_{w:World}{base:Nat}{e:TypeId}{g n cap K:Nat}{xs:List Value}(h1:w.ownsRow base e 3 (.slice (some ⟨g,0,none⟩) n cap) K xs):n=K:=by
 rcases h1.2 with ⟨e1,e2⟩ | ⟨g',cap',cur,e1,_⟩
 ·cases e1
 ·simp only[Value.slice.injEq] at e1
  exact e1.2.1
theorem j7_{w:World}{base:Nat}{e:TypeId}{g n cap:Nat}{L:List Fx}{r:Nat}(h:HalfC w base e (.slice (some ⟨g,0,none⟩) n cap) L (r+1)){k:Nat}(hk:k=L.length) :
 (w.cell? ⟨g,k * 3,none⟩=some (.bool false)∧w.cell? ⟨g,k * 3+1,none⟩=some (.slice none 0 0)∧w.cell? ⟨g,k * 3+2,none⟩=some (.slice none 0 0))∧w.frozen? ⟨g,k * 3,none⟩=false∧w.frozen? ⟨g,k * 3+1,none⟩=false∧w.frozen? ⟨g,k * 3+2,none⟩=false:=by
 obtain⟨⟨h1,_⟩,_⟩:=h
 subst hk
 obtain rfl:=pv_ h1
 have hl:(L ++ List.replicate (r+1) Fx.zero).length=L.length+(r+1):=by rw[List.length_append,List.length_replicate]
 have hz:(L ++ List.replicate (r+1) Fx.zero).getD L.length Fx.zero=Fx.zero:=by
  rw[List.getD_eq_getElem?_getD,List.getElem?_append_right (Nat.le_refl _),Nat.sub_self];rfl
 obtain⟨c0,c1,c2⟩:=e1_ (L ++ List.replicate (r+1) Fx.zero) L.length (by omega)
 rw[hz] at c0 c1 c2
 have hf:=bq_ (L ++ List.replicate (r+1) Fx.zero)
 have p0:=h1.cellAt (L.length * 3) (by omega)
 have p1:=h1.cellAt (L.length * 3+1) (by omega)
 have p2:=h1.cellAt (L.length * 3+2) (by omega)
 rw[c0] at p0;rw[c1] at p1;rw[c2] at p2
 exact⟨⟨p0,p1,p2⟩,h1.frozenAt _,h1.frozenAt _,h1.frozenAt _⟩
theorem HalfC.stored{w:World}{base:Nat}{e:TypeId}{g n cap:Nat}{L:List Fx}{r:Nat}(h:HalfC w base e (.slice (some ⟨g,0,none⟩) n cap) L (r+1)){k:Nat}(hk:k=L.length)(x:Fx)(hx:x.ok w) :
 HalfC (((w.setCell ⟨g,k * 3,none⟩ (.bool x.s)).setCell ⟨g,k * 3+1,none⟩ (.slice x.a x.n x.c)).setCell ⟨g,k * 3+2,none⟩ (.slice x.b x.m x.d)) base e (.slice (some ⟨g,0,none⟩) n cap) (L ++ [x]) r∧
 w.grownBy (((w.setCell ⟨g,k * 3,none⟩ (.bool x.s)).setCell ⟨g,k * 3+1,none⟩ (.slice x.a x.n x.c)).setCell ⟨g,k * 3+2,none⟩ (.slice x.b x.m x.d)) (some g):=by
 obtain⟨⟨p0,p1,p2⟩,-⟩:=j7_ h hk
 obtain⟨⟨h1,h2⟩,h4⟩:=h
 subst hk
 have hl:(L ++ List.replicate (r+1) Fx.zero).length=L.length+(r+1):=by rw[List.length_append,List.length_replicate]
 obtain rfl:=pv_ h1
 have hset:(L ++ List.replicate (r+1) Fx.zero).set L.length x=(L ++ [x]) ++ List.replicate r Fx.zero:=by
  rw[List.set_append_right _ _ (Nat.le_refl _),Nat.sub_self,List.replicate_succ,List.set_cons_zero,List.append_assoc];rfl
 obtain⟨s0,g0⟩:=h1.stored (L.length * 3) (.bool x.s)
 obtain⟨s1,g1⟩:=s0.stored (L.length * 3+1) (.slice x.a x.n x.c)
 obtain⟨s2,g2⟩:=s1.stored (L.length * 3+2) (.slice x.b x.m x.d)
 have l0:=ce_ (j:=L.length * 3) (u:=.bool x.s) h2 p0 (fun y e=>by cases e)
 have l1:=ce_ (j:=L.length * 3+1) (u:=.slice x.a x.n x.c) l0 ((World.cell?_setCell_other _ ⟨g,L.length * 3,none⟩ ⟨g,L.length * 3+1,none⟩ _ (fun e=>by simp at e)).trans p1) (fun y e=>by cases e)
 have l2:=ce_ (j:=L.length * 3+2) (u:=.slice x.b x.m x.d) l1 (((World.cell?_setCell_other _ ⟨g,L.length * 3+1,none⟩ ⟨g,L.length * 3+2,none⟩ _ (fun e=>by simp at e)).trans (World.cell?_setCell_other _ ⟨g,L.length * 3,none⟩ ⟨g,L.length * 3+2,none⟩ _ (fun e=>by simp at e))).trans p2) (fun y e=>by cases e)
 have hg:=(g0.trans g1).trans g2
 refine ⟨⟨⟨?_,l2⟩,fun y hy=>?_⟩,hg⟩
 ·rw[←hset,ep_ _ _ _ (by omega),List.length_set]
  exact s2
 ·rcases List.mem_append.1 hy with hy | hy
  ·exact Fx.aside (h4 y hy) h2 hg
  ·rw[List.mem_singleton.1 hy]
   exact Fx.aside hx h2 hg
def Half (w:World) (base:Nat) (e:TypeId) (v:Value) (qs:LR_) (r:Nat):Prop:=∃L,HalfC w base e v L r∧L.map Fx.q=qs∧∀x∈L,x.right
theorem Half.later{w w':World}{base:Nat}{e:TypeId}{v:Value}{qs:List Rat}{r:Nat}(h:Half w base e v qs r)(hb:Below w.heap.size w w'):Half w' base e v qs r:=by
 obtain⟨L,h1,h2,h3⟩:=h
 exact⟨L,h1.later hb,h2,h3⟩
theorem Half.l_ {w w':World}{x0 x1 x2 x3 x4}(h:Half w x0 x1 x2 x3 x4)(b:Below w.heap.size w w'):Hid (Half w' x0 x1 x2 x3 x4):=Lib.hid (h.later b)
theorem Half.start{w:World}{base:Nat}{e:TypeId}{v:Value}{r:Nat}(h:HalfC w base e v [] r):Half w base e v [] r:=⟨[],h,rfl,fun x hx=>by simp at hx⟩
theorem Half.done{w:World}{base:Nat}{e:TypeId}{v:Value}{qs:List Rat}(h:Half w base e v qs 0):Row w base e v qs:=by
 obtain⟨L,h1,h2,h3⟩:=h
 exact⟨L,h1.done.1,h2,fun x hx=>⟨h1.done.2 x hx,h3 x hx⟩⟩
theorem Half.cell{w:World}{base:Nat}{e:TypeId}{g n cap:Nat}{qs:List Rat}{r:Nat}(h:Half w base e (.slice (some ⟨g,0,none⟩) n cap) qs (r+1)){k:Nat}(hk:k=qs.length) :
 (w.cell? ⟨g,k * 3,none⟩=some (.bool false)∧w.cell? ⟨g,k * 3+1,none⟩=some (.slice none 0 0)∧w.cell? ⟨g,k * 3+2,none⟩=some (.slice none 0 0))∧w.frozen? ⟨g,k * 3,none⟩=false∧w.frozen? ⟨g,k * 3+1,none⟩=false∧w.frozen? ⟨g,k * 3+2,none⟩=false:=by
 obtain⟨L,h1,h2,h3⟩:=h
 exact j7_ h1 (by rw[hk,←h2,List.length_map])
theorem Half.stored{w:World}{base:Nat}{e:TypeId}{g n cap:Nat}{qs:List Rat}{r:Nat}(h:Half w base e (.slice (some ⟨g,0,none⟩) n cap) qs (r+1)){k:Nat}(hk:k=qs.length)(q:Rat)(a:OA_)(m c:Nat)(b:OA_)(l d:Nat)(ha:Wd w a m c (dg q.num.natAbs))(hb:Wd w b l d (dg q.den)) :
 Half (((w.setCell ⟨g,k * 3,none⟩ (.bool (zneg q.num))).setCell ⟨g,k * 3+1,none⟩ (.slice a m c)).setCell ⟨g,k * 3+2,none⟩ (.slice b l d)) base e (.slice (some ⟨g,0,none⟩) n cap) (qs ++ [q]) r∧
 w.grownBy (((w.setCell ⟨g,k * 3,none⟩ (.bool (zneg q.num))).setCell ⟨g,k * 3+1,none⟩ (.slice a m c)).setCell ⟨g,k * 3+2,none⟩ (.slice b l d)) (some g):=by
 obtain⟨L,h1,h2,h3⟩:=h
 obtain⟨h5,h6⟩:=h1.stored (k:=k) (by rw[hk,←h2,List.length_map]) (rx q a m c b l d) ⟨ha,hb⟩
 refine ⟨⟨L ++ [rx q a m c b l d],h5,by rw[List.map_append,h2];simp[rx_q],fun y hy=>?_⟩,h6⟩
 rcases List.mem_append.1 hy with hy | hy
 ·exact h3 y hy
 ·rw[List.mem_singleton.1 hy]
  exact de_ _ _ _ _ _ _ _
theorem Half.whole{w:World}{base:Nat}{e:TypeId}{v:Value}{T:List Rat}{k r:Nat}(h:Half w base e v (T.take k) r)(hk:T.length=k)(hr:r=0):Row w base e v T:=by
 subst hr
 exact h.done.whole hk
end Go.Proofs.YtocebjbjnfammaaGreat
