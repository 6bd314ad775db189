import Derived.Test.YtocebjbjnfammaaGreatTG3
import Derived.Test.YtocebjbjnfammaaGreatTG4
import Derived.Test.YtocebjbjnfammaaGreatTG2
import Derived.Deep.RegionHeld3
import Derived.Deep.RegionWith
import Derived.Deep.CutRange
import Derived.Test.YtocebjbjnfammaaGreatTG1
set_option maxRecDepth 4096
set_option maxHeartbeats 16000000
namespace Go.Proofs.YtocebjbjnfammaaGreat
open Go.RowKit
theorem f8_{w:World}{A0:Nat}{c0_0 c0_1 c0_2:Value}{t0:TypeId}(h0:w.heap[A0]? = some (.cells #[c0_0,c0_1,c0_2] t0 (0,0))):w.cell? ⟨A0,0,none⟩=some c0_0∧w.cell? ⟨A0,1,none⟩=some c0_1∧w.cell? ⟨A0,2,none⟩=some c0_2:=⟨ad_ h0 0,ad_ h0 1,ad_ h0 2⟩
theorem ba_{w:World}{A0 A1:Nat}{c0_0 c0_1 c0_2 c1_0 c1_1 c1_2:Value}{t0 t1:TypeId}(h0:w.heap[A0]? = some (.cells #[c0_0,c0_1,c0_2] t0 (0,0)))(h1:w.heap[A1]? = some (.cells #[c1_0,c1_1,c1_2] t1 (0,0))):w.cell? ⟨A0,0,none⟩=some c0_0∧w.cell? ⟨A0,1,none⟩=some c0_1∧w.cell? ⟨A0,2,none⟩=some c0_2∧w.cell? ⟨A1,0,none⟩=some c1_0∧w.cell? ⟨A1,1,none⟩=some c1_1∧w.cell? ⟨A1,2,none⟩=some c1_2:=⟨ad_ h0 0,ad_ h0 1,ad_ h0 2,ad_ h1 0,ad_ h1 1,ad_ h1 2⟩
theorem be_{w:World}{g:Nat}{x y z:Value}{t:TypeId}(h:w.heap[g]? = some (.cells #[x,y,z] t (0,0)))(u v q:Value):(((w.setCell ⟨g,0,none⟩ u).setCell ⟨g,1,none⟩ v).setCell ⟨g,2,none⟩ q).heap[g]? = some (.cells #[u,v,q] t (0,0)):=by
 have h1:=gp_ (gp_ (gp_ h 0 u) 1 v) 2 q
 simpa using h1
theorem mc_{b:Bool}{a:Option Addr}{n cap:Nat}{c:Option Addr}{m cap':Nat}:∀(j:Nat) (k:Int),(#[Value.bool b,.slice a n cap,.slice c m cap']:Array Value)[j]?≠some (.int .u32 k):=by
 intro j k
 match j with
 | 0=>simp
 | 1=>simp
 | 2=>simp
 | j+3=>simp
theorem Wd.stored3{w:World}{a:Option Addr}{n cap:Nat}{l:List Nat}(h:Wd w a n cap l){g:Nat}{b:Bool}{x:Option Addr}{y z:Nat}{x':Option Addr}{y' z':Nat}{t:TypeId}(hg:w.heap[g]? = some (.cells #[.bool b,.slice x y z,.slice x' y' z'] t (0,0)))(c:Bool)(e:OA_)(i j:Nat)(v:Value) :
 Wd (((w.setCell ⟨g,0,none⟩ (.bool c)).setCell ⟨g,1,none⟩ (.slice e i j)).setCell ⟨g,2,none⟩ v) a n cap l:=by
 have h1:=h.stored hg mc_ 0 (.bool c)
 have g1:(w.setCell ⟨g,0,none⟩ (.bool c)).heap[g]? = some (.cells #[.bool c,.slice x y z,.slice x' y' z'] t (0,0)):=by simpa using gp_ hg 0 (.bool c)
 have h2:=h1.stored g1 mc_ 1 (.slice e i j)
 have g2:((w.setCell ⟨g,0,none⟩ (.bool c)).setCell ⟨g,1,none⟩ (.slice e i j)).heap[g]? = some (.cells #[.bool c,.slice e i j,.slice x' y' z'] t (0,0)):=by simpa using gp_ g1 1 (.slice e i j)
 exact h2.stored g2 mc_ 2 v
theorem as_{w w1:World}{g:Nat}(h:Below w.heap.size w w1)(hg:w.heap.size≤g)(u v q:Value):Below w.heap.size w (((w1.setCell ⟨g,0,none⟩ u).setCell ⟨g,1,none⟩ v).setCell ⟨g,2,none⟩ q):=((h.setCell (p:=⟨g,0,none⟩) hg u).setCell (p:=⟨g,1,none⟩) hg v).setCell (p:=⟨g,2,none⟩) hg q
theorem fs_(neg:Bool)(a:OA_)(n cap:Nat)(la:List Nat)(b:OA_)(m cap':Nat)(lb:List Nat)(w:World)(ha:Wd w a n cap la)(hb:Wd w b m cap' lb)(hn:n≤104857600000)(hm:m≤104857600000) :
 Calls Tryz.prog 11 #[frV neg a n cap b m cap'] w (LstQ (qval neg (val la) (val lb)) w):=by
 obtain⟨qq,hqq⟩:∃qq,qq=qval neg (val la) (val lb):=⟨_,rfl⟩
 rw[←hqq]
 have HQ:=hd_ hqq
 clear hqq
 have hla:=ha.trim_le
 have hlb:=hb.trim_le
 have HB:=hd_ (ab_ (aa_ w (.cells #[.bool neg,.slice a n cap,.slice b m cap'] 27)) (aa_ _ (.cells #[.bool false,.slice none 0 0,.slice none 0 0] 27)))
 have HA:=hd_ (ha.later HB.out)
 have HC:=hd_ (hb.later HB.out)
 obtain⟨hx1,hx2⟩:=c0_ w ((w.alloc (.cells #[.bool neg,.slice a n cap,.slice b m cap'] 27)).alloc (.cells #[.bool false,.slice none 0 0,.slice none 0 0] 27)) #[.bool neg,.slice a n cap,.slice b m cap'] #[.bool false,.slice none 0 0,.slice none 0 0] 27 27 (Below.refl _ _)
 have HX:=hd_ hx1
 have HR:=hd_ hx2
 clear ha hb hx1 hx2
 go_enter Tryz.func11,Tryz.ntmps11
 unfold frV
 obtain⟨k0,k1,k2,k3,k4,k5⟩:=ba_ HX.out HR.out
 go_wp2_with fail
 refine (du_ b m cap' lb _ HC.out (by omega)).mono ?_
 rintro e w1 ⟨a1,n1,c1,rfl,h1,b⟩
 clear k0 k1 k2 k3 k4 k5
 replace HB:=bt_ HB b
 replace HX:=bl_ HX b
 replace HR:=bl_ HR b
 clear HC
 replace HA:=HA.l_ b
 clear b
 have Hn1:=hd_ h1.len
 have hn1:n1≤104857600000:=by have:=h1.len;omega
 have R1:=hd_ h1
 clear h1
 obtain⟨k0,k1,k2,k3,k4,k5⟩:=ba_ HX.out HR.out
 go_wp2_with fail
 refine (du_ a n cap la _ HA.out (by omega)).mono ?_
 rintro e w2 ⟨a2,n2,c2,rfl,h2,b⟩
 clear k0 k1 k2 k3 k4 k5
 replace HB:=bt_ HB b
 replace HX:=bl_ HX b
 replace HR:=bl_ HR b
 clear HA
 replace R1:=R1.l_ b
 clear b
 have Hn2:=hd_ h2.len
 have hn2:n2≤104857600000:=by have:=h2.len;omega
 have R2:=hd_ h2
 clear h2
 by_cases hz:n1=0
 ·subst hz
  obtain rfl:qq=0:=HQ.out.trans (ef_ neg (.inl (dg_nil_iff.1 Hn1.out)))
  have HB4:=hd_ (ab_ (aa_ w2 (.cells #[] 81)) (aa_ _ (.cells #[.int .u32 1] 81)))
  have HR4:=hd_ (ac_ HR.out HB4.out)
  obtain⟨k3,k4,k5⟩:=f8_ HR4.out
  have f0:=ae_ HR4.out 0
  have f1:=ae_ HR4.out 1
  have f2:=ae_ HR4.out 2
  have HG:=hd_ (be_ HR4.out (.bool false) (.slice (some ⟨w2.heap.size,0,none⟩) 0 0) (.slice (some ⟨w2.heap.size+1,0,none⟩) 1 1))
  have HL:=hd_ (as_ (ab_ HB.out HB4.out) (show w.heap.size≤w.heap.size+1 by omega) (.bool false) (.slice (some ⟨w2.heap.size,0,none⟩) 0 0) (.slice (some ⟨w2.heap.size+1,0,none⟩) 1 1))
  have w1':Wd ((w2.alloc (.cells #[] 81)).alloc (.cells #[.int .u32 1] 81)) (some ⟨w2.heap.size+1,0,none⟩) 1 1 [1]:=by
   have h:=Wd.lit1 (w2.alloc (.cells #[] 81)) 81 (x:=1) (by omega)
   rwa [al_] at h
  have HW1:=hd_ (w1'.stored3 HR4.out false (some ⟨w2.heap.size,0,none⟩) 0 0 (.slice (some ⟨w2.heap.size+1,0,none⟩) 1 1))
  clear w1'
  go_wp2
  refine bodyPost_ret (results_cell_row Tryz.results11 _ _ (w.heap.size+1) 27 #[.bool false,.slice (some ⟨w2.heap.size,0,none⟩) 0 0,.slice (some ⟨w2.heap.size+1,0,none⟩) 1 1] (0,0) _ rfl HG.out Tryz.underlying27 rfl (by kernel_rfl)) rfl ?_
  refine ⟨_,_,_,_,_,_,rfl,?_,?_,HL.out⟩
  ·show Wd _ _ _ _ (dg (0:Nat))
   rw[cu_];exact Wd.empty _ _ _ (by omega)
  ·show Wd _ _ _ _ (dg (1:Nat))
   rw[fk_ (by decide) (by decide)];exact HW1.out
 ·have hzi:((n1:Int) == 0)=false:=by simp[hz]
  by_cases hy:n2=0
  ·subst hy
   obtain rfl:qq=0:=HQ.out.trans (ef_ neg (.inr (dg_nil_iff.1 Hn2.out)))
   have HB4:=hd_ (ab_ (aa_ w2 (.cells #[] 81)) (aa_ _ (.cells #[.int .u32 1] 81)))
   have HR4:=hd_ (ac_ HR.out HB4.out)
   obtain⟨k3,k4,k5⟩:=f8_ HR4.out
   have f0:=ae_ HR4.out 0
   have f1:=ae_ HR4.out 1
   have f2:=ae_ HR4.out 2
   have HG:=hd_ (be_ HR4.out (.bool false) (.slice (some ⟨w2.heap.size,0,none⟩) 0 0) (.slice (some ⟨w2.heap.size+1,0,none⟩) 1 1))
   have HL:=hd_ (as_ (ab_ HB.out HB4.out) (show w.heap.size≤w.heap.size+1 by omega) (.bool false) (.slice (some ⟨w2.heap.size,0,none⟩) 0 0) (.slice (some ⟨w2.heap.size+1,0,none⟩) 1 1))
   have w1':Wd ((w2.alloc (.cells #[] 81)).alloc (.cells #[.int .u32 1] 81)) (some ⟨w2.heap.size+1,0,none⟩) 1 1 [1]:=by
    have h:=Wd.lit1 (w2.alloc (.cells #[] 81)) 81 (x:=1) (by omega)
    rwa [al_] at h
   have HW1:=hd_ (w1'.stored3 HR4.out false (some ⟨w2.heap.size,0,none⟩) 0 0 (.slice (some ⟨w2.heap.size+1,0,none⟩) 1 1))
   clear w1'
   go_wp2
   refine bodyPost_ret (results_cell_row Tryz.results11 _ _ (w.heap.size+1) 27 #[.bool false,.slice (some ⟨w2.heap.size,0,none⟩) 0 0,.slice (some ⟨w2.heap.size+1,0,none⟩) 1 1] (0,0) _ rfl HG.out Tryz.underlying27 rfl (by kernel_rfl)) rfl ?_
   refine ⟨_,_,_,_,_,_,rfl,?_,?_,HL.out⟩
   ·show Wd _ _ _ _ (dg (0:Nat))
    rw[cu_];exact Wd.empty _ _ _ (by omega)
   ·show Wd _ _ _ _ (dg (1:Nat))
    rw[fk_ (by decide) (by decide)];exact HW1.out
  ·have hyi:((n2:Int) == 0)=false:=by simp[hy]
   have hv0:Hid (val lb≠0):=hd_ (fun h=>hz (Hn1.out.symm.trans (dg_nil_iff.2 h)))
   have hu0:Hid (val la≠0):=hd_ (fun h=>hy (Hn2.out.symm.trans (dg_nil_iff.2 h)))
   have HP:=hd_ (e9_ neg (u:=val la) hv0.out)
   have HS:=hd_ (qval_sign neg hv0.out hu0.out)
   rw[←HQ.out] at HP HS
   have HA1:Hid (qq.num.natAbs=val la / Nat.gcd (val la) (val lb)):=hd_ (by rw[HP.out.1,d0_])
   have HA2:Hid (qq.den=val lb / Nat.gcd (val la) (val lb)):=hd_ HP.out.2
   have hgl:(dg (Nat.gcd (val la) (val lb))).length≤104857600000:=Nat.le_trans (ax_ (Nat.gcd_le_left _ (Nat.pos_of_ne_zero hu0.out))) (by omega)
   have Hg0:Hid (Nat.gcd (val la) (val lb)≠0):=hd_ (Nat.ne_of_gt (Nat.gcd_pos_of_pos_left _ (Nat.pos_of_ne_zero hu0.out)))
   clear HP
   by_cases h1:val lb=1
   ·obtain⟨vk0,vk1,vk2,vk3,vk4,vk5⟩:=ba_ HX.out HR.out
    go_wp2_with fail
    refine (mt_ a1 n1 c1 (val lb) _ R1.out).mono ?_
    rintro e w' ⟨rfl,rfl⟩
    clear vk0 vk1 vk2 vk3 vk4 vk5
    rw[decide_eq_true h1]
    have HG1:Hid (Nat.gcd (val la) (val lb)=1):=hd_ (by rw[h1,Nat.gcd_one_right])
    have HN1:Hid (dg (val la / Nat.gcd (val la) (val lb))=dg (val la)):=hd_ (by rw[HG1.out,Nat.div_one])
    have HN2:Hid (dg (val lb / Nat.gcd (val la) (val lb))=dg (val lb)):=hd_ (by rw[HG1.out,Nat.div_one])
    clear h1
    have HG:=hd_ (be_ HR.out (.bool neg) (.slice a2 n2 c2) (.slice a1 n1 c1))
    have HL:=hd_ (as_ HB.out (show w.heap.size≤w.heap.size+1 by omega) (.bool neg) (.slice a2 n2 c2) (.slice a1 n1 c1))
    have HW1:=hd_ (R2.out.stored3 HR.out neg a2 n2 c2 (.slice a1 n1 c1))
    have HW2:=hd_ (R1.out.stored3 HR.out neg a2 n2 c2 (.slice a1 n1 c1))
    obtain⟨k0,k1,k2,k3,k4,k5⟩:=ba_ HX.out HR.out
    have f0:=ae_ HR.out 0
    have f1:=ae_ HR.out 1
    have f2:=ae_ HR.out 2
    go_wp2
    refine bodyPost_ret (results_cell_row Tryz.results11 _ _ (w.heap.size+1) 27 #[.bool neg,.slice a2 n2 c2,.slice a1 n1 c1] (0,0) _ rfl HG.out Tryz.underlying27 rfl (by kernel_rfl)) rfl ?_
    refine ⟨_,_,_,_,_,_,by rw[HS.out];rfl,?_,?_,HL.out⟩
    ·rw[HA1.out];rw[HN1.out];exact HW1.out
    ·rw[HA2.out];rw[HN2.out];exact HW2.out
   ·obtain⟨vk0,vk1,vk2,vk3,vk4,vk5⟩:=ba_ HX.out HR.out
    go_wp2_with fail
    refine (mt_ a1 n1 c1 (val lb) _ R1.out).mono ?_
    rintro e w' ⟨rfl,rfl⟩
    clear vk0 vk1 vk2 vk3 vk4 vk5
    rw[decide_eq_false h1]
    clear h1
    have HV1:Hid (val (dg (val la))=val la):=hd_ (a3_ _)
    have HV2:Hid (val (dg (val lb))=val lb):=hd_ (a3_ _)
    obtain⟨vk0,vk1,vk2,vk3,vk4,vk5⟩:=ba_ HX.out HR.out
    go_wp2_with fail
    refine (ref06_gcd a2 n2 c2 _ a1 n1 c1 _ _ R2.out R1.out (by omega) (by omega)).mono ?_
    rintro e wv2 ⟨a3,n3,c3,rfl,h3,b⟩
    clear vk0 vk1 vk2 vk3 vk4 vk5
    replace HB:=bt_ HB b
    replace HX:=bl_ HX b
    replace HR:=bl_ HR b
    replace R1:=R1.l_ b
    replace R2:=R2.l_ b
    clear b
    rw[HV1.out,HV2.out] at h3
    have hn3:n3≤104857600000:=by have:=h3.len;omega
    have R3:=hd_ h3
    clear h3
    obtain⟨vk0,vk1,vk2,vk3,vk4,vk5⟩:=ba_ HX.out HR.out
    go_wp2_with fail
    refine (ob_ a2 n2 c2 _ a3 n3 c3 _ _ R2.out R3.out (by omega) (by omega) Hg0).mono ?_
    rintro e wv3 ⟨a4,n4,c4,rfl,h4,b⟩
    clear vk0 vk1 vk2 vk3 vk4 vk5
    replace HB:=bt_ HB b
    replace HX:=bl_ HX b
    replace HR:=bl_ HR b
    clear R2
    replace R1:=R1.l_ b
    replace R3:=R3.l_ b
    clear b
    rw[HV1.out] at h4
    have R4:=hd_ h4
    clear h4
    obtain⟨vk0,vk1,vk2,vk3,vk4,vk5⟩:=ba_ HX.out HR.out
    go_wp2_with fail
    refine (ob_ a1 n1 c1 _ a3 n3 c3 _ _ R1.out R3.out (by omega) (by omega) Hg0).mono ?_
    rintro e wv4 ⟨a5,n5,c5,rfl,h5,b⟩
    clear vk0 vk1 vk2 vk3 vk4 vk5
    replace HB:=bt_ HB b
    replace HX:=bl_ HX b
    replace HR:=bl_ HR b
    clear R1
    clear R3
    replace R4:=R4.l_ b
    clear b
    rw[HV2.out] at h5
    have R5:=hd_ h5
    clear h5
    have HG:=hd_ (be_ HR.out (.bool neg) (.slice a4 n4 c4) (.slice a5 n5 c5))
    have HL:=hd_ (as_ HB.out (show w.heap.size≤w.heap.size+1 by omega) (.bool neg) (.slice a4 n4 c4) (.slice a5 n5 c5))
    have HW1:=hd_ (R4.out.stored3 HR.out neg a4 n4 c4 (.slice a5 n5 c5))
    have HW2:=hd_ (R5.out.stored3 HR.out neg a4 n4 c4 (.slice a5 n5 c5))
    obtain⟨k0,k1,k2,k3,k4,k5⟩:=ba_ HX.out HR.out
    have f0:=ae_ HR.out 0
    have f1:=ae_ HR.out 1
    have f2:=ae_ HR.out 2
    go_wp2
    refine bodyPost_ret (results_cell_row Tryz.results11 _ _ (w.heap.size+1) 27 #[.bool neg,.slice a4 n4 c4,.slice a5 n5 c5] (0,0) _ rfl HG.out Tryz.underlying27 rfl (by kernel_rfl)) rfl ?_
    refine ⟨_,_,_,_,_,_,by rw[HS.out];rfl,?_,?_,HL.out⟩
    ·rw[HA1.out];exact HW1.out
    ·rw[HA2.out];exact HW2.out
theorem uz_(neg:Bool)(a:OA_)(n cap:Nat)(b:OA_)(m cap':Nat)(w:World) :
 Calls Tryz.prog 70 #[frV neg a n cap b m cap'] w (bf_ (.bool ((n:Int) == 0)) w):=by
 unfold frV
 go_enter Tryz.func70,Tryz.ntmps70
 go_wp2
 go_ret
 exact⟨rfl,aa_ _ _⟩
theorem nk_(neg:Bool)(a:OA_)(n cap:Nat)(b:OA_)(m cap':Nat)(l k:List Nat)(a':OA_)(n' c':Nat)(b':OA_)(m' d':Nat)(w:World)(ha:Wd w a n cap l)(hb:Wd w b m cap' k)(ha':Wd w a' n' c' l)(hb':Wd w b' m' d' k) :
 Calls Tryz.prog 72 #[frV neg a n cap b m cap',frV neg a' n' c' b' m' d'] w (bf_ (.bool true) w):=by
 have HB:=hd_ (ab_ (aa_ w (.cells #[.bool neg,.slice a n cap,.slice b m cap'] 27)) (aa_ _ (.cells #[.bool neg,.slice a' n' c',.slice b' m' d'] 27)))
 have HA:=hd_ (ha.later HB.out)
 have HC:=hd_ (hb.later HB.out)
 have HA':=hd_ (ha'.later HB.out)
 have HC':=hd_ (hb'.later HB.out)
 obtain⟨hx1,hx2⟩:=c0_ w ((w.alloc (.cells #[.bool neg,.slice a n cap,.slice b m cap'] 27)).alloc (.cells #[.bool neg,.slice a' n' c',.slice b' m' d'] 27)) #[.bool neg,.slice a n cap,.slice b m cap'] #[.bool neg,.slice a' n' c',.slice b' m' d'] 27 27 (Below.refl _ _)
 have HX:=hd_ hx1
 have HY:=hd_ hx2
 clear ha hb ha' hb' hx1 hx2
 go_enter Tryz.func72,Tryz.ntmps72
 unfold frV
 obtain⟨vk0,vk1,vk2,vk3,vk4,vk5⟩:=ba_ HX.out HY.out
 go_wp2_with fail
 refine (iy_ _ _ _ _ _ _ _ _ _ HA.out HA'.out rfl).mono ?_
 rintro e wv1 ⟨rfl,b⟩
 clear vk0 vk1 vk2 vk3 vk4 vk5
 replace HB:=bt_ HB b
 replace HX:=bl_ HX b
 replace HY:=bl_ HY b
 replace HA:=HA.l_ b
 replace HC:=HC.l_ b
 replace HA':=HA'.l_ b
 replace HC':=HC'.l_ b
 clear b
 obtain⟨vk0,vk1,vk2,vk3,vk4,vk5⟩:=ba_ HX.out HY.out
 go_wp2_with fail
 refine (iy_ _ _ _ _ _ _ _ _ _ HC.out HC'.out rfl).mono ?_
 rintro e wv2 ⟨rfl,b⟩
 clear vk0 vk1 vk2 vk3 vk4 vk5
 replace HB:=bt_ HB b
 replace HX:=bl_ HX b
 replace HY:=bl_ HY b
 replace HA:=HA.l_ b
 replace HC:=HC.l_ b
 replace HA':=HA'.l_ b
 replace HC':=HC'.l_ b
 clear b
 go_wp2
 go_ret
 exact⟨rfl,HB.out⟩
theorem jh_(w:World)(x y z:Array Value)(t s r:TypeId) :
 (((w.alloc (.cells x t)).alloc (.cells y s)).alloc (.cells z r)).heap[w.heap.size]? = some (.cells x t (0,0))∧(((w.alloc (.cells x t)).alloc (.cells y s)).alloc (.cells z r)).heap[w.heap.size+1]? = some (.cells y s (0,0))∧(((w.alloc (.cells x t)).alloc (.cells y s)).alloc (.cells z r)).heap[w.heap.size+1+1]? = some (.cells z r (0,0)):=by
 obtain⟨h1,h2⟩:=c0_ w (((w.alloc (.cells x t)).alloc (.cells y s)).alloc (.cells z r)) x y t s (aa_ _ _)
 refine ⟨h1,h2,?_⟩
 have h3:=ai_ ((w.alloc (.cells x t)).alloc (.cells y s)) z r
 rw[al_,al_] at h3
 exact h3
theorem bz_{w:World}{A B:Nat}{x y z u:Value}{t s:TypeId}(h1:w.heap[A]? = some (.cells #[x,y] t (0,0)))(h2:w.heap[B]? = some (.cells #[z,u] s (0,0))) :
 w.cell? ⟨A,0,none⟩=some x∧w.cell? ⟨A,1,none⟩=some y∧w.cell? ⟨B,0,none⟩=some z∧w.cell? ⟨B,1,none⟩=some u:=⟨ad_ h1 0,ad_ h1 1,ad_ h2 0,ad_ h2 1⟩
theorem cn_{w:World}{A g:Nat}{o:Obj}(h:w.heap[A]? = some o)(hne:A≠g)(i:Nat)(u:Value):(w.setCell ⟨g,i,none⟩ u).heap[A]? = some o:=(Below.heap_setCell w ⟨g,i,none⟩ u A hne).trans h
theorem f0_{w:World}{A B g:Nat}{x y z u:Value}{t s:TypeId}(h1:w.heap[A]? = some (.cells #[x,y] t (0,0)))(h2:w.heap[B]? = some (.cells #[z,u] s (0,0)))(hA:A≠g)(hB:B≠g)(p q:Value) :
 ((w.setCell ⟨g,0,none⟩ p).setCell ⟨g,1,none⟩ q).cell? ⟨A,0,none⟩=some x∧((w.setCell ⟨g,0,none⟩ p).setCell ⟨g,1,none⟩ q).cell? ⟨A,1,none⟩=some y∧((w.setCell ⟨g,0,none⟩ p).setCell ⟨g,1,none⟩ q).cell? ⟨B,0,none⟩=some z∧((w.setCell ⟨g,0,none⟩ p).setCell ⟨g,1,none⟩ q).cell? ⟨B,1,none⟩=some u:=
 bz_ (cn_ (cn_ h1 hA 0 p) hA 1 q) (cn_ (cn_ h2 hB 0 p) hB 1 q)
theorem i8_(neg:Bool)(u v:Nat):zval neg (u+v)=zval neg u+zval neg v:=by unfold zval;cases neg <;> simp <;> omega
theorem j0_{na nb:Bool}{u v:Nat}(hne:na≠nb)(h:u < v):zval nb (v - u)=zval na u+zval nb v:=by
 unfold zval;cases na <;> cases nb <;> simp at hne ⊢ <;> omega
theorem jo_{na nb:Bool}{u v:Nat}(hne:na≠nb)(h:v≤u):zval na (u - v)=zval na u+zval nb v:=by
 unfold zval;cases na <;> cases nb <;> simp at hne ⊢ <;> omega
theorem tg_(na nb:Bool)(u v:Nat):zval (!(na == nb)) (u * v)=zval na u * zval nb v:=by
 unfold zval;cases na <;> cases nb <;> simp[Int.neg_mul,Int.mul_neg]
theorem uq_(na nb:Bool)(u v x y:Nat):qval (!(na == nb)) (u * x) (v * y)=qval na u v * qval nb x y:=by
 unfold qval
 rw[Rat.mkRat_mul_mkRat,tg_]
theorem bk_{w:World}{A g:Nat}{o:Obj}(h:w.heap[A]? = some o)(hne:A≠g)(u v q:Value):(((w.setCell ⟨g,0,none⟩ u).setCell ⟨g,1,none⟩ v).setCell ⟨g,2,none⟩ q).heap[A]? = some o:=
 cn_ (cn_ (cn_ h hne 0 u) hne 1 v) hne 2 q
theorem eo_(w:World)(x y z:Array Value)(t s r:TypeId) :
 (((w.alloc (.cells x t)).alloc (.cells y s)).alloc (.cells z r)).heap[w.heap.size]? = some (.cells x t (0,0))∧(((w.alloc (.cells x t)).alloc (.cells y s)).alloc (.cells z r)).heap[w.heap.size+1]? = some (.cells y s (0,0))∧(((w.alloc (.cells x t)).alloc (.cells y s)).alloc (.cells z r)).heap[w.heap.size+1+1]? = some (.cells z r (0,0)):=jh_ w x y z t s r
theorem ref09_mul(na:Bool)(a:OA_)(n cap:Nat)(la:List Nat)(b:OA_)(m cap':Nat)(lb:List Nat)(nb:Bool)(a':OA_)(n' c':Nat)(la':List Nat)(b':OA_)(m' d':Nat)(lb':List Nat)(w:World)(ha:Wd w a n cap la)(hb:Wd w b m cap' lb)(ha':Wd w a' n' c' la')(hb':Wd w b' m' d' lb')(hn:n≤41943040000)(hm:m≤41943040000)(hn':n'≤41943040000)(hm':m'≤41943040000) :
 Calls Tryz.prog 114 #[frV na a n cap b m cap',frV nb a' n' c' b' m' d'] w (LstQ (qval na (val la) (val lb) * qval nb (val la') (val lb')) w):=by
 have HB:=hd_ (ab_ (ab_ (aa_ w (.cells #[.bool na,.slice a n cap,.slice b m cap'] 27)) (aa_ _ (.cells #[.bool nb,.slice a' n' c',.slice b' m' d'] 27))) (aa_ _ (.cells #[.bool false,.slice none 0 0,.slice none 0 0] 27)))
 have HA:=hd_ (ha.later HB.out)
 have HC:=hd_ (hb.later HB.out)
 have HA':=hd_ (ha'.later HB.out)
 have HC':=hd_ (hb'.later HB.out)
 obtain⟨hx1,hx2,hx3⟩:=eo_ w #[.bool na,.slice a n cap,.slice b m cap'] #[.bool nb,.slice a' n' c',.slice b' m' d'] #[.bool false,.slice none 0 0,.slice none 0 0] 27 27 27
 have HX:=hd_ hx1
 have HY:=hd_ hx2
 have HR:=hd_ hx3
 have ha1:=ha.trim_le
 have hb1:=hb.trim_le
 have ha2:=ha'.trim_le
 have hb2:=hb'.trim_le
 have hW1:w.heap.size+1+1 < (((w.alloc (.cells #[.bool na,.slice a n cap,.slice b m cap'] 27)).alloc (.cells #[.bool nb,.slice a' n' c',.slice b' m' d'] 27)).alloc (.cells #[.bool false,.slice none 0 0,.slice none 0 0] 27)).heap.size:=(Array.getElem?_eq_some_iff.1 hx3).1
 clear ha hb ha' hb' hx1 hx2 hx3
 have zl1:=bp_ (val la) (val la')
 have zl2:=bp_ (val lb) (val lb')
 have HV1:Hid (val (dg (val la * val la'))=val la * val la'):=hd_ (a3_ _)
 have HV2:Hid (val (dg (val lb * val lb'))=val lb * val lb'):=hd_ (a3_ _)
 go_enter Tryz.func114,Tryz.ntmps114
 unfold frV
 go_wp2
 generalize (((w.alloc (.cells #[.bool na,.slice a n cap,.slice b m cap'] 27)).alloc (.cells #[.bool nb,.slice a' n' c',.slice b' m' d'] 27)).alloc (.cells #[.bool false,.slice none 0 0,.slice none 0 0] 27))=W at *
 replace HB:=bt_ HB (dw_ W)
 replace HX:Hid (W.drew.heap[w.heap.size]? = _):=hd_ HX.out
 replace HY:Hid (W.drew.heap[w.heap.size+1]? = _):=hd_ HY.out
 replace HR:Hid (W.drew.heap[w.heap.size+1+1]? = some (.cells #[.bool false,.slice none 0 0,.slice none 0 0] 27 (0,0))):=hd_ HR.out
 replace HA:=HA.l_ (dw_ W)
 replace HC:=HC.l_ (dw_ W)
 replace HA':=HA'.l_ (dw_ W)
 replace HC':=HC'.l_ (dw_ W)
 have pSn:=ba_ HX.out HY.out
 go_region_held3 (fun w'=>w'.cell? ⟨w.heap.size,0,none⟩=some (.bool na)∧w'.cell? ⟨w.heap.size,1,none⟩=some (.slice a n cap)∧w'.cell? ⟨w.heap.size,2,none⟩=some (.slice b m cap')∧w'.cell? ⟨w.heap.size+1,0,none⟩=some (.bool nb)∧w'.cell? ⟨w.heap.size+1,1,none⟩=some (.slice a' n' c')∧w'.cell? ⟨w.heap.size+1,2,none⟩=some (.slice b' m' d')) (first | exact pSn | exact pSb _ _ _)
  (first
  | (go_at_call 99;(first
    | (have pm1:=pM1;refine (fh_ b m cap' lb b' m' d' lb' _ HC.out HC'.out (by omega) (by omega)).mono ?_;rintro e wp2 ⟨a2,n2,c2,rfl,h2,b⟩;replace HB:=bt_ HB b;replace HX:=bl_ HX b;replace HY:=bl_ HY b;replace HR:=bl_ HR b;replace HA:=HA.l_ b;replace HC:=HC.l_ b;replace HA':=HA'.l_ b;replace HC':=HC'.l_ b;replace R1:=R1.l_ b;have R2:=hd_ h2;have hn2:n2≤94371840000:=(by have:=h2.len;omega);clear h2;clear b;clear pSn;have pSn:=ba_ HX.out HY.out;clear pM1 pm1;have pM2:=True.intro)
    | (refine (fh_ a n cap la a' n' c' la' _ HA.out HA'.out (by omega) (by omega)).mono ?_;rintro e wp1 ⟨a1,n1,c1,rfl,h1,b⟩;replace HB:=bt_ HB b;replace HX:=bl_ HX b;replace HY:=bl_ HY b;replace HR:=bl_ HR b;replace HA:=HA.l_ b;replace HC:=HC.l_ b;replace HA':=HA'.l_ b;replace HC':=HC'.l_ b;have R1:=hd_ h1;have hn1:n1≤94371840000:=(by have:=h1.len;omega);clear h1;clear b;clear pSn;have pSn:=ba_ HX.out HY.out;have pM1:=True.intro)))
  | (go_at_call 11;(first
    | (have pm2:=pM2;refine (fs_ _ a1 n1 c1 _ a2 n2 c2 _ _ R1.out R2.out (by omega) (by omega)).mono ?_;rintro e wp3 ⟨a3,n3,c3,a4,n4,c4,rfl,h3,h4,b⟩;replace HB:=bt_ HB b;replace HX:=bl_ HX b;replace HY:=bl_ HY b;replace HR:=bl_ HR b;replace HA:=HA.l_ b;replace HC:=HC.l_ b;replace HA':=HA'.l_ b;replace HC':=HC'.l_ b;clear R1;clear R2;have R3:=hd_ h3;have R4:=hd_ h4;clear h3 h4;obtain⟨r0,r1,r2⟩:=f8_ HR.out;have f0:=ae_ HR.out 0;have f1:=ae_ HR.out 1;have f2:=ae_ HR.out 2;have pSb:=fun u v q=>ba_ (bk_ (g:=w.heap.size+1+1) HX.out (by omega) u v q) (bk_ (g:=w.heap.size+1+1) HY.out (by omega) u v q);unfold frV;clear b;clear pSn;have pSn:=ba_ HX.out HY.out;clear pM2 pm2;have pM3:=True.intro))))
 have HQ:Hid (qval (!(na == nb)) (val (dg (val la * val la'))) (val (dg (val lb * val lb')))=qval na (val la) (val lb) * qval nb (val la') (val lb')):=hd_ (by rw[HV1.out,HV2.out];exact uq_ _ _ _ _ _ _)
 rw[HQ.out] at R3 R4
 rw[HQ.out]
 generalize qval na (val la) (val lb) * qval nb (val la') (val lb')=q at *
 have HG:=hd_ (be_ HR.out (.bool (zneg q.num)) (.slice a3 n3 c3) (.slice a4 n4 c4))
 have HL:=hd_ (as_ HB.out (show w.heap.size≤w.heap.size+1+1 by omega) (.bool (zneg q.num)) (.slice a3 n3 c3) (.slice a4 n4 c4))
 have HW1:=hd_ (R3.out.stored3 HR.out (zneg q.num) a3 n3 c3 (.slice a4 n4 c4))
 have HW2:=hd_ (R4.out.stored3 HR.out (zneg q.num) a3 n3 c3 (.slice a4 n4 c4))
 go_wp2
 refine bodyPost_ret (results_cell_row Tryz.results114 _ _ (w.heap.size+1+1) 27 #[.bool (zneg q.num),.slice a3 n3 c3,.slice a4 n4 c4] (0,0) _ rfl HG.out Tryz.underlying27 rfl (by kernel_rfl)) rfl ?_
 exact⟨_,_,_,_,_,_,rfl,HW1.out,HW2.out,HL.out⟩
theorem ref09_quo(na:Bool)(a:OA_)(n cap:Nat)(la:List Nat)(b:OA_)(m cap':Nat)(lb:List Nat)(nb:Bool)(a':OA_)(n' c':Nat)(la':List Nat)(b':OA_)(m' d':Nat)(lb':List Nat)(w:World)(ha:Wd w a n cap la)(hb:Wd w b m cap' lb)(ha':Wd w a' n' c' la')(hb':Wd w b' m' d' lb')(hn:n≤41943040000)(hm:m≤41943040000)(hn':n'≤41943040000)(hm':m'≤41943040000) :
 Calls Tryz.prog 54 #[frV na a n cap b m cap',frV nb a' n' c' b' m' d'] w (LstQ (qval na (val la) (val lb) * qval nb (val lb') (val la')) w):=by
 have HB:=hd_ (ab_ (ab_ (aa_ w (.cells #[.bool na,.slice a n cap,.slice b m cap'] 27)) (aa_ _ (.cells #[.bool nb,.slice a' n' c',.slice b' m' d'] 27))) (aa_ _ (.cells #[.bool false,.slice none 0 0,.slice none 0 0] 27)))
 have HA:=hd_ (ha.later HB.out)
 have HC:=hd_ (hb.later HB.out)
 have HA':=hd_ (ha'.later HB.out)
 have HC':=hd_ (hb'.later HB.out)
 obtain⟨hx1,hx2,hx3⟩:=eo_ w #[.bool na,.slice a n cap,.slice b m cap'] #[.bool nb,.slice a' n' c',.slice b' m' d'] #[.bool false,.slice none 0 0,.slice none 0 0] 27 27 27
 have HX:=hd_ hx1
 have HY:=hd_ hx2
 have HR:=hd_ hx3
 have ha1:=ha.trim_le
 have hb1:=hb.trim_le
 have ha2:=ha'.trim_le
 have hb2:=hb'.trim_le
 have hW1:w.heap.size+1+1 < (((w.alloc (.cells #[.bool na,.slice a n cap,.slice b m cap'] 27)).alloc (.cells #[.bool nb,.slice a' n' c',.slice b' m' d'] 27)).alloc (.cells #[.bool false,.slice none 0 0,.slice none 0 0] 27)).heap.size:=(Array.getElem?_eq_some_iff.1 hx3).1
 clear ha hb ha' hb' hx1 hx2 hx3
 have zl1:=bp_ (val la) (val lb')
 have zl2:=bp_ (val lb) (val la')
 have HV1:Hid (val (dg (val la * val lb'))=val la * val lb'):=hd_ (a3_ _)
 have HV2:Hid (val (dg (val lb * val la'))=val lb * val la'):=hd_ (a3_ _)
 go_enter Tryz.func54,Tryz.ntmps54
 unfold frV
 go_wp2
 generalize (((w.alloc (.cells #[.bool na,.slice a n cap,.slice b m cap'] 27)).alloc (.cells #[.bool nb,.slice a' n' c',.slice b' m' d'] 27)).alloc (.cells #[.bool false,.slice none 0 0,.slice none 0 0] 27))=W at *
 replace HB:=bt_ HB (dw_ W)
 replace HX:Hid (W.drew.heap[w.heap.size]? = _):=hd_ HX.out
 replace HY:Hid (W.drew.heap[w.heap.size+1]? = _):=hd_ HY.out
 replace HR:Hid (W.drew.heap[w.heap.size+1+1]? = some (.cells #[.bool false,.slice none 0 0,.slice none 0 0] 27 (0,0))):=hd_ HR.out
 replace HA:=HA.l_ (dw_ W)
 replace HC:=HC.l_ (dw_ W)
 replace HA':=HA'.l_ (dw_ W)
 replace HC':=HC'.l_ (dw_ W)
 have pSn:=ba_ HX.out HY.out
 go_region_held3 (fun w'=>w'.cell? ⟨w.heap.size,0,none⟩=some (.bool na)∧w'.cell? ⟨w.heap.size,1,none⟩=some (.slice a n cap)∧w'.cell? ⟨w.heap.size,2,none⟩=some (.slice b m cap')∧w'.cell? ⟨w.heap.size+1,0,none⟩=some (.bool nb)∧w'.cell? ⟨w.heap.size+1,1,none⟩=some (.slice a' n' c')∧w'.cell? ⟨w.heap.size+1,2,none⟩=some (.slice b' m' d')) (first | exact pSn | exact pSb _ _ _)
  (first
  | (go_at_call 99;(first
    | (have pm1:=pM1;refine (fh_ b m cap' lb a' n' c' la' _ HC.out HA'.out (by omega) (by omega)).mono ?_;rintro e wp2 ⟨a2,n2,c2,rfl,h2,b⟩;replace HB:=bt_ HB b;replace HX:=bl_ HX b;replace HY:=bl_ HY b;replace HR:=bl_ HR b;replace HA:=HA.l_ b;replace HC:=HC.l_ b;replace HA':=HA'.l_ b;replace HC':=HC'.l_ b;replace R1:=R1.l_ b;have R2:=hd_ h2;have hn2:n2≤94371840000:=(by have:=h2.len;omega);clear h2;clear b;clear pSn;have pSn:=ba_ HX.out HY.out;clear pM1 pm1;have pM2:=True.intro)
    | (refine (fh_ a n cap la b' m' d' lb' _ HA.out HC'.out (by omega) (by omega)).mono ?_;rintro e wp1 ⟨a1,n1,c1,rfl,h1,b⟩;replace HB:=bt_ HB b;replace HX:=bl_ HX b;replace HY:=bl_ HY b;replace HR:=bl_ HR b;replace HA:=HA.l_ b;replace HC:=HC.l_ b;replace HA':=HA'.l_ b;replace HC':=HC'.l_ b;have R1:=hd_ h1;have hn1:n1≤94371840000:=(by have:=h1.len;omega);clear h1;clear b;clear pSn;have pSn:=ba_ HX.out HY.out;have pM1:=True.intro)))
  | (go_at_call 11;(first
    | (have pm2:=pM2;refine (fs_ _ a1 n1 c1 _ a2 n2 c2 _ _ R1.out R2.out (by omega) (by omega)).mono ?_;rintro e wp3 ⟨a3,n3,c3,a4,n4,c4,rfl,h3,h4,b⟩;replace HB:=bt_ HB b;replace HX:=bl_ HX b;replace HY:=bl_ HY b;replace HR:=bl_ HR b;replace HA:=HA.l_ b;replace HC:=HC.l_ b;replace HA':=HA'.l_ b;replace HC':=HC'.l_ b;clear R1;clear R2;have R3:=hd_ h3;have R4:=hd_ h4;clear h3 h4;obtain⟨r0,r1,r2⟩:=f8_ HR.out;have f0:=ae_ HR.out 0;have f1:=ae_ HR.out 1;have f2:=ae_ HR.out 2;have pSb:=fun u v q=>ba_ (bk_ (g:=w.heap.size+1+1) HX.out (by omega) u v q) (bk_ (g:=w.heap.size+1+1) HY.out (by omega) u v q);unfold frV;clear b;clear pSn;have pSn:=ba_ HX.out HY.out;clear pM2 pm2;have pM3:=True.intro))))
 have HQ:Hid (qval (!(na == nb)) (val (dg (val la * val lb'))) (val (dg (val lb * val la')))=qval na (val la) (val lb) * qval nb (val lb') (val la')):=hd_ (by rw[HV1.out,HV2.out];exact uq_ _ _ _ _ _ _)
 rw[HQ.out] at R3 R4
 rw[HQ.out]
 generalize qval na (val la) (val lb) * qval nb (val lb') (val la')=q at *
 have HG:=hd_ (be_ HR.out (.bool (zneg q.num)) (.slice a3 n3 c3) (.slice a4 n4 c4))
 have HL:=hd_ (as_ HB.out (show w.heap.size≤w.heap.size+1+1 by omega) (.bool (zneg q.num)) (.slice a3 n3 c3) (.slice a4 n4 c4))
 have HW1:=hd_ (R3.out.stored3 HR.out (zneg q.num) a3 n3 c3 (.slice a4 n4 c4))
 have HW2:=hd_ (R4.out.stored3 HR.out (zneg q.num) a3 n3 c3 (.slice a4 n4 c4))
 go_wp2
 refine bodyPost_ret (results_cell_row Tryz.results54 _ _ (w.heap.size+1+1) 27 #[.bool (zneg q.num),.slice a3 n3 c3,.slice a4 n4 c4] (0,0) _ rfl HG.out Tryz.underlying27 rfl (by kernel_rfl)) rfl ?_
 exact⟨_,_,_,_,_,_,rfl,HW1.out,HW2.out,HL.out⟩
theorem ref08_add(na:Bool)(a:OA_)(n cap:Nat)(la:List Nat)(nb:Bool)(b:OA_)(m cap':Nat)(lb:List Nat)(w:World)(ha:Wd w a n cap la)(hb:Wd w b m cap' lb)(hn:n≤104857600000)(hm:m≤104857600000) :
 Calls Tryz.prog 143 #[whV na a n cap,whV nb b m cap'] w (LstZ (zval na (val la)+zval nb (val lb)) w):=by
 have hB3:Below w.heap.size w (((w.alloc (.cells #[.bool na,.slice a n cap] 143)).alloc (.cells #[.bool nb,.slice b m cap'] 143)).alloc (.cells #[.bool false,.slice none 0 0] 143)):=ab_ (ab_ (aa_ _ _) (aa_ _ _)) (aa_ _ _)
 have Ha:=ha.l_ hB3
 have Hb:=hb.l_ hB3
 have HB:=hd_ hB3
 have hpl0:(dg (val la+val lb)).length≤209715200001:=by
  have h1:=es_ (val la) (val lb)
  have h2:=ha.trim_le
  have h3:=hb.trim_le
  omega
 have hpl1:(dg (val la - val lb)).length≤209715200001:=Nat.le_trans (ax_ (by omega)) hpl0
 have hpl2:(dg (val lb - val la)).length≤209715200001:=Nat.le_trans (ax_ (by omega)) hpl0
 have h3b:=jh_ w #[.bool na,.slice a n cap] #[.bool nb,.slice b m cap'] #[.bool false,.slice none 0 0] 143 143 143
 have hA:=hd_ h3b.1
 have hBb:=hd_ h3b.2.1
 have hR:=hd_ h3b.2.2
 clear ha hb hB3 h3b
 by_cases hne:na=nb
 ·subst hne
  have hpl:=hd_ hpl0
  have hq:(na == na)=true:=by simp
  clear hpl0 hpl1 hpl2
  go_enter Tryz.func143,Tryz.ntmps143
  unfold whV
  go_wp2
  generalize ((w.alloc (.cells #[.bool na,.slice a n cap] 143)).alloc (.cells #[.bool na,.slice b m cap'] 143)).alloc (.cells #[.bool false,.slice none 0 0] 143)=W at *
  have hAd:W.drew.heap[w.heap.size]? = some (.cells #[.bool na,.slice a n cap] 143 (0,0)):=hA.out
  have hBd:W.drew.heap[w.heap.size+1]? = some (.cells #[.bool na,.slice b m cap'] 143 (0,0)):=hBb.out
  have hRd:W.drew.heap[w.heap.size+1+1]? = some (.cells #[.bool false,.slice none 0 0] 143 (0,0)):=hR.out
  have Hd:Below W.heap.size W W.drew:=(Below.refl _ _).drew
  have Sd:=bz_ hAd hBd
  have HAd:=hd_ hAd
  have HBd:=hd_ hBd
  have HRd:=hd_ hRd
  clear hAd hBd hRd
  go_region_held3 (fun w'=>w'.cell? ⟨w.heap.size,0,none⟩=some (.bool na)∧w'.cell? ⟨w.heap.size,1,none⟩=some (.slice a n cap)∧w'.cell? ⟨w.heap.size+1,0,none⟩=some (.bool na)∧w'.cell? ⟨w.heap.size+1,1,none⟩=some (.slice b m cap')) (first | exact Sd | exact S1 | exact S2 | exact S3 _ _)
   (first
   | (go_at_call 66;(refine (q7_ a n cap la b m cap' lb _ (Ha.out.later Hd) (Hb.out.later Hd) ?q3 ?q4).mono ?_);(case q3=>omega);(case q4=>omega);rintro e w1 ⟨a1,n1,c1,rfl,h1,b1⟩;have hA1:=ac_ HAd.out b1;have hB1:=ac_ HBd.out b1;have S1:=bz_ hA1 hB1)
   | (go_at_call 159;(refine (kn_ _ a1 n1 c1 _ _ h1 ?q5).mono ?_);(case q5=>have h7:=h1.len;have h8:=hpl.out;omega);rintro e w2 ⟨a2,n2,c2,rfl,h2,b2⟩;have S2:=bz_ (ac_ hA1 b2) (ac_ hB1 b2);have S3:=f0_ (g:=w.heap.size+1+1) (ac_ hA1 b2) (ac_ hB1 b2) (by omega) (by omega);have hRb:=ac_ (ac_ HRd.out b1) b2;have r0:=ad_ hRb 0;have r1:=ad_ hRb 1;have f0:=ae_ hRb 0;have f1:=ae_ hRb 1;simp only[List.getElem?_toArray,List.getElem?_cons_zero,List.getElem?_cons_succ] at r0 r1;unfold whV))
  have H2:=hd_ h2
  have hl2:=hd_ hRb
  have hBe:=hd_ (ab_ HB.out (ab_ Hd (ab_ b1 b2)))
  have HF:=hd_ (H2.out.stored2 hl2.out (zneg (zval na (val (dg (val la+val lb))))) (.slice a2 n2 c2))
  have HG:=hd_ (bj_ hl2.out (.bool (zneg (zval na (val (dg (val la+val lb)))))) (.slice a2 n2 c2))
  have HB2:=hd_ (ay_ hBe.out (show w.heap.size≤w.heap.size+1+1 by omega) (.bool (zneg (zval na (val (dg (val la+val lb)))))) (.slice a2 n2 c2))
  have HV:Hid (zval na (val (dg (val la+val lb)))=zval na (val la)+zval na (val lb)):=hd_ (by rw[a3_];exact i8_ na _ _)
  rw[HV.out] at HF HG HB2
  rw[HV.out]
  generalize hzz:zval na (val la)+zval na (val lb)=z at *
  go_wp2
  refine bodyPost_ret (results_cell_row Tryz.results143 _ _ (w.heap.size+1+1) 143 #[.bool (zneg z),.slice a2 n2 c2] (0,0) _ rfl HG.out Tryz.underlying143 rfl (by kernel_rfl)) rfl ?_
  exact⟨a2,n2,c2,rfl,HF.out,HB2.out⟩
 ·have hq:(na == nb)=false:=by simp[hne]
  have Hne:=hd_ hne
  clear hne
  go_enter Tryz.func143,Tryz.ntmps143
  unfold whV
  go_wp2_with fail
  refine (mm_ _ _ _ _ _ _ _ _ _ Ha.out Hb.out (by omega) (by omega)).mono ?_
  rintro e w' ⟨rfl,rfl⟩
  by_cases hlt:val la < val lb
  ·have hc:cmpI (val la) (val lb) < 0:=by rw[fv_ hlt];omega
   have hpl:=hd_ hpl2
   have Hle:Hid (val la≤val lb):=hd_ (by omega)
   have Hlt:=hd_ hlt
   clear hlt hpl0 hpl1 hpl2
   generalize cmpI (val la) (val lb)=cc at *
   go_wp2
   generalize ((w.alloc (.cells #[.bool na,.slice a n cap] 143)).alloc (.cells #[.bool nb,.slice b m cap'] 143)).alloc (.cells #[.bool false,.slice none 0 0] 143)=W at *
   have hAd:W.drew.heap[w.heap.size]? = some (.cells #[.bool na,.slice a n cap] 143 (0,0)):=hA.out
   have hBd:W.drew.heap[w.heap.size+1]? = some (.cells #[.bool nb,.slice b m cap'] 143 (0,0)):=hBb.out
   have hRd:W.drew.heap[w.heap.size+1+1]? = some (.cells #[.bool false,.slice none 0 0] 143 (0,0)):=hR.out
   have Hd:Below W.heap.size W W.drew:=(Below.refl _ _).drew
   have Sd:=bz_ hAd hBd
   have HAd:=hd_ hAd
   have HBd:=hd_ hBd
   have HRd:=hd_ hRd
   clear hAd hBd hRd
   go_region_held3 (fun w'=>w'.cell? ⟨w.heap.size,0,none⟩=some (.bool na)∧w'.cell? ⟨w.heap.size,1,none⟩=some (.slice a n cap)∧w'.cell? ⟨w.heap.size+1,0,none⟩=some (.bool nb)∧w'.cell? ⟨w.heap.size+1,1,none⟩=some (.slice b m cap')) (first | exact Sd | exact S1 | exact S2 | exact S3 _ _)
    (first
    | (go_at_call 160;(refine (qw_ b m cap' lb a n cap la _ (Hb.out.later Hd) (Ha.out.later Hd) ?q3 ?q4 Hle).mono ?_);(case q3=>omega);(case q4=>omega);rintro e w1 ⟨a1,n1,c1,rfl,h1,b1⟩;have hA1:=ac_ HAd.out b1;have hB1:=ac_ HBd.out b1;have S1:=bz_ hA1 hB1)
    | (go_at_call 159;(refine (kn_ _ a1 n1 c1 _ _ h1 ?q5).mono ?_);(case q5=>have h7:=h1.len;have h8:=hpl.out;omega);rintro e w2 ⟨a2,n2,c2,rfl,h2,b2⟩;have S2:=bz_ (ac_ hA1 b2) (ac_ hB1 b2);have S3:=f0_ (g:=w.heap.size+1+1) (ac_ hA1 b2) (ac_ hB1 b2) (by omega) (by omega);have hRb:=ac_ (ac_ HRd.out b1) b2;have r0:=ad_ hRb 0;have r1:=ad_ hRb 1;have f0:=ae_ hRb 0;have f1:=ae_ hRb 1;simp only[List.getElem?_toArray,List.getElem?_cons_zero,List.getElem?_cons_succ] at r0 r1;unfold whV))
   have H2:=hd_ h2
   have hl2:=hd_ hRb
   have hBe:=hd_ (ab_ HB.out (ab_ Hd (ab_ b1 b2)))
   have HF:=hd_ (H2.out.stored2 hl2.out (zneg (zval nb (val (dg (val lb - val la))))) (.slice a2 n2 c2))
   have HG:=hd_ (bj_ hl2.out (.bool (zneg (zval nb (val (dg (val lb - val la)))))) (.slice a2 n2 c2))
   have HB2:=hd_ (ay_ hBe.out (show w.heap.size≤w.heap.size+1+1 by omega) (.bool (zneg (zval nb (val (dg (val lb - val la)))))) (.slice a2 n2 c2))
   have HV:Hid (zval nb (val (dg (val lb - val la)))=zval na (val la)+zval nb (val lb)):=hd_ (by rw[a3_];exact j0_ Hne.out Hlt.out)
   rw[HV.out] at HF HG HB2
   rw[HV.out]
   generalize hzz:zval na (val la)+zval nb (val lb)=z at *
   go_wp2
   refine bodyPost_ret (results_cell_row Tryz.results143 _ _ (w.heap.size+1+1) 143 #[.bool (zneg z),.slice a2 n2 c2] (0,0) _ rfl HG.out Tryz.underlying143 rfl (by kernel_rfl)) rfl ?_
   exact⟨a2,n2,c2,rfl,HF.out,HB2.out⟩
  ·have hc:¬cmpI (val la) (val lb) < 0:=by unfold cmpI;split <;> (try split) <;> omega
   have hpl:=hd_ hpl1
   have Hle:Hid (val lb≤val la):=hd_ (by omega)
   clear hlt hpl0 hpl1 hpl2
   generalize cmpI (val la) (val lb)=cc at *
   go_wp2
   generalize ((w.alloc (.cells #[.bool na,.slice a n cap] 143)).alloc (.cells #[.bool nb,.slice b m cap'] 143)).alloc (.cells #[.bool false,.slice none 0 0] 143)=W at *
   have hAd:W.drew.heap[w.heap.size]? = some (.cells #[.bool na,.slice a n cap] 143 (0,0)):=hA.out
   have hBd:W.drew.heap[w.heap.size+1]? = some (.cells #[.bool nb,.slice b m cap'] 143 (0,0)):=hBb.out
   have hRd:W.drew.heap[w.heap.size+1+1]? = some (.cells #[.bool false,.slice none 0 0] 143 (0,0)):=hR.out
   have Hd:Below W.heap.size W W.drew:=(Below.refl _ _).drew
   have Sd:=bz_ hAd hBd
   have HAd:=hd_ hAd
   have HBd:=hd_ hBd
   have HRd:=hd_ hRd
   clear hAd hBd hRd
   go_region_held3 (fun w'=>w'.cell? ⟨w.heap.size,0,none⟩=some (.bool na)∧w'.cell? ⟨w.heap.size,1,none⟩=some (.slice a n cap)∧w'.cell? ⟨w.heap.size+1,0,none⟩=some (.bool nb)∧w'.cell? ⟨w.heap.size+1,1,none⟩=some (.slice b m cap')) (first | exact Sd | exact S1 | exact S2 | exact S3 _ _)
    (first
    | (go_at_call 160;(refine (qw_ a n cap la b m cap' lb _ (Ha.out.later Hd) (Hb.out.later Hd) ?q3 ?q4 Hle).mono ?_);(case q3=>omega);(case q4=>omega);rintro e w1 ⟨a1,n1,c1,rfl,h1,b1⟩;have hA1:=ac_ HAd.out b1;have hB1:=ac_ HBd.out b1;have S1:=bz_ hA1 hB1)
    | (go_at_call 159;(refine (kn_ _ a1 n1 c1 _ _ h1 ?q5).mono ?_);(case q5=>have h7:=h1.len;have h8:=hpl.out;omega);rintro e w2 ⟨a2,n2,c2,rfl,h2,b2⟩;have S2:=bz_ (ac_ hA1 b2) (ac_ hB1 b2);have S3:=f0_ (g:=w.heap.size+1+1) (ac_ hA1 b2) (ac_ hB1 b2) (by omega) (by omega);have hRb:=ac_ (ac_ HRd.out b1) b2;have r0:=ad_ hRb 0;have r1:=ad_ hRb 1;have f0:=ae_ hRb 0;have f1:=ae_ hRb 1;simp only[List.getElem?_toArray,List.getElem?_cons_zero,List.getElem?_cons_succ] at r0 r1;unfold whV))
   have H2:=hd_ h2
   have hl2:=hd_ hRb
   have hBe:=hd_ (ab_ HB.out (ab_ Hd (ab_ b1 b2)))
   have HF:=hd_ (H2.out.stored2 hl2.out (zneg (zval na (val (dg (val la - val lb))))) (.slice a2 n2 c2))
   have HG:=hd_ (bj_ hl2.out (.bool (zneg (zval na (val (dg (val la - val lb)))))) (.slice a2 n2 c2))
   have HB2:=hd_ (ay_ hBe.out (show w.heap.size≤w.heap.size+1+1 by omega) (.bool (zneg (zval na (val (dg (val la - val lb)))))) (.slice a2 n2 c2))
   have HV:Hid (zval na (val (dg (val la - val lb)))=zval na (val la)+zval nb (val lb)):=hd_ (by rw[a3_];exact jo_ Hne.out Hle.out)
   rw[HV.out] at HF HG HB2
   rw[HV.out]
   generalize hzz:zval na (val la)+zval nb (val lb)=z at *
   go_wp2
   refine bodyPost_ret (results_cell_row Tryz.results143 _ _ (w.heap.size+1+1) 143 #[.bool (zneg z),.slice a2 n2 c2] (0,0) _ rfl HG.out Tryz.underlying143 rfl (by kernel_rfl)) rfl ?_
   exact⟨a2,n2,c2,rfl,HF.out,HB2.out⟩





theorem bo_{P:Program}{fn:Func}{p u:Tmp}{ty:TypeId}(h:fn.results=#[.cell p ty,.tmp u])(tmps:Array Value)(w:World)(g:Nat)(t:TypeId)(cs:Array Value)(fr:Nat × Nat)(d:TypeDesc)
 (hp:tmps.getD p undef=.pointer (some ⟨g,0,none⟩)) (hg:w.heap[g]? = some (.cells cs t fr))
 (hu:P.underlying ty=some d) (hd:(match d with | .struct _ | .array _ _=>true | _=>false)=true) (hi:(P.info? ty).map (·.size)=some cs.size) :
 (results fn tmps).run P w=.ok (.tuple #[.agg cs,tmps.getD u undef]) w:=by
 rw[results_cell_tmp h,hp]
 simp[asAddr,run_loadVar_row w g t ty cs fr d hg hu hd hi]
theorem s5_(na:Bool)(a:OA_)(n cap:Nat)(la:List Nat)(x:Int)(nb:Bool)(b:OA_)(m cap':Nat)(lb:List Nat)(y:Int)(w:World)(ha:Wd w a n cap la)(hb:Wd w b m cap' lb)(hn:n≤104857600000)(hm:m≤104857600000)(hx:zval na (val la)=x)(hy:zval nb (val lb)=y) :
 Calls Tryz.prog 143 #[whV na a n cap,whV nb b m cap'] w (LstZ (x+y) w):=by
 subst hx hy;exact ref08_add na a n cap la nb b m cap' lb w ha hb hn hm
theorem gd_{w:World}{A0 A1 A2:Nat}{c0_0 c0_1 c0_2 c1_0 c1_1 c1_2 c2_0 c2_1:Value}{t0 t1 t2:TypeId}(h0:w.heap[A0]? = some (.cells #[c0_0,c0_1,c0_2] t0 (0,0)))(h1:w.heap[A1]? = some (.cells #[c1_0,c1_1,c1_2] t1 (0,0)))(h2:w.heap[A2]? = some (.cells #[c2_0,c2_1] t2 (0,0))):w.cell? ⟨A0,0,none⟩=some c0_0∧w.cell? ⟨A0,1,none⟩=some c0_1∧w.cell? ⟨A0,2,none⟩=some c0_2∧w.cell? ⟨A1,0,none⟩=some c1_0∧w.cell? ⟨A1,1,none⟩=some c1_1∧w.cell? ⟨A1,2,none⟩=some c1_2∧w.cell? ⟨A2,0,none⟩=some c2_0∧w.cell? ⟨A2,1,none⟩=some c2_1:=⟨ad_ h0 0,ad_ h0 1,ad_ h0 2,ad_ h1 0,ad_ h1 1,ad_ h1 2,ad_ h2 0,ad_ h2 1⟩
theorem l5_{w:World}{A0 A1 A2 A3 A4:Nat}{c0_0 c0_1 c0_2 c1_0 c1_1 c1_2 c2_0 c2_1 c3_0 c3_1 c4_0 c4_1 c4_2:Value}{t0 t1 t2 t3 t4:TypeId}(h0:w.heap[A0]? = some (.cells #[c0_0,c0_1,c0_2] t0 (0,0)))(h1:w.heap[A1]? = some (.cells #[c1_0,c1_1,c1_2] t1 (0,0)))(h2:w.heap[A2]? = some (.cells #[c2_0,c2_1] t2 (0,0)))(h3:w.heap[A3]? = some (.cells #[c3_0,c3_1] t3 (0,0)))(h4:w.heap[A4]? = some (.cells #[c4_0,c4_1,c4_2] t4 (0,0))):w.cell? ⟨A0,0,none⟩=some c0_0∧w.cell? ⟨A0,1,none⟩=some c0_1∧w.cell? ⟨A0,2,none⟩=some c0_2∧w.cell? ⟨A1,0,none⟩=some c1_0∧w.cell? ⟨A1,1,none⟩=some c1_1∧w.cell? ⟨A1,2,none⟩=some c1_2∧w.cell? ⟨A2,0,none⟩=some c2_0∧w.cell? ⟨A2,1,none⟩=some c2_1∧w.cell? ⟨A3,0,none⟩=some c3_0∧w.cell? ⟨A3,1,none⟩=some c3_1∧w.cell? ⟨A4,0,none⟩=some c4_0∧w.cell? ⟨A4,1,none⟩=some c4_1∧w.cell? ⟨A4,2,none⟩=some c4_2:=⟨ad_ h0 0,ad_ h0 1,ad_ h0 2,ad_ h1 0,ad_ h1 1,ad_ h1 2,ad_ h2 0,ad_ h2 1,ad_ h3 0,ad_ h3 1,ad_ h4 0,ad_ h4 1,ad_ h4 2⟩
theorem qval_add{na nb:Bool}{u v x y:Nat}(hv:v≠0)(hy:y≠0)(s:Int)(hs:s=zval na (u * y)+zval nb (x * v)):qval (zneg s) s.natAbs (v * y)=qval na u v+qval nb x y:=by
 unfold qval
 rw[hp_,Rat.mkRat_add_mkRat _ _ hv hy,hs]
 congr 1
 unfold zval
 cases na <;> cases nb <;> simp[Int.neg_mul]
theorem qd_{P:Program}{f:FuncId}{args:Array Value}{v0 v:World}{l:List Nat}(hv:Below v0.heap.size v0 v)(h:Calls P f args v (Lst l v)) :
 Calls P f args v (fun e w'=>∃(a:OA_) (n cap:Nat),e=.returned (.slice a n cap)∧Wd w' a n cap l∧Below v0.heap.size v0 w'∧∀(g:Nat) (o:Obj),v.heap[g]? = some o→w'.heap[g]? = some o):=
 h.mono fun _ _ ⟨a,n,c,he,h1,hb⟩=>⟨a,n,c,he,h1,ab_ hv hb,fun _ _ hg=>ac_ hg hb⟩
theorem db_{w:World}{A g:Nat}{o:Obj}(h:w.heap[A]? = some o)(hne:A≠g)(u v:Value):((w.setCell ⟨g,0,none⟩ u).setCell ⟨g,1,none⟩ v).heap[A]? = some o:=cn_ (cn_ h hne 0 u) hne 1 v
theorem ref09_add(na:Bool)(a:OA_)(n cap:Nat)(la:List Nat)(b:OA_)(m cap':Nat)(lb:List Nat)(nb:Bool)(a':OA_)(n' c':Nat)(la':List Nat)(b':OA_)(m' d':Nat)(lb':List Nat)(w:World)(ha:Wd w a n cap la)(hb:Wd w b m cap' lb)(ha':Wd w a' n' c' la')(hb':Wd w b' m' d' lb')(hn:n≤20971520000)(hm:m≤20971520000)(hn':n'≤20971520000)(hm':m'≤20971520000)(hd:Hid (val lb≠0))(hd':Hid (val lb'≠0)) :
 Calls Tryz.prog 113 #[frV na a n cap b m cap',frV nb a' n' c' b' m' d'] w (LstQ (qval na (val la) (val lb)+qval nb (val la') (val lb')) w):=by
 have HB:=hd_ (ab_ (ab_ (aa_ w (.cells #[.bool na,.slice a n cap,.slice b m cap'] 27)) (aa_ _ (.cells #[.bool nb,.slice a' n' c',.slice b' m' d'] 27))) (aa_ _ (.cells #[.bool false,.slice none 0 0,.slice none 0 0] 27)))
 have HA:=hd_ (ha.later HB.out)
 have HC:=hd_ (hb.later HB.out)
 have HA':=hd_ (ha'.later HB.out)
 have HC':=hd_ (hb'.later HB.out)
 obtain⟨hx1,hx2,hx3⟩:=eo_ w #[.bool na,.slice a n cap,.slice b m cap'] #[.bool nb,.slice a' n' c',.slice b' m' d'] #[.bool false,.slice none 0 0,.slice none 0 0] 27 27 27
 have HX:=hd_ hx1
 have HY:=hd_ hx2
 have HR:=hd_ hx3
 have ha1:=ha.trim_le
 have hb1:=hb.trim_le
 have ha2:=ha'.trim_le
 have hb2:=hb'.trim_le
 have hW1:w.heap.size+1+1 < (((w.alloc (.cells #[.bool na,.slice a n cap,.slice b m cap'] 27)).alloc (.cells #[.bool nb,.slice a' n' c',.slice b' m' d'] 27)).alloc (.cells #[.bool false,.slice none 0 0,.slice none 0 0] 27)).heap.size:=(Array.getElem?_eq_some_iff.1 hx3).1
 clear ha hb ha' hb' hx1 hx2 hx3
 have zl1:=bp_ (val la) (val lb')
 have zl2:=bp_ (val la') (val lb)
 have zl3:=bp_ (val lb) (val lb')
 obtain⟨u,hu⟩:∃u,u=val la * val lb':=⟨_,rfl⟩
 obtain⟨v,hv⟩:∃v,v=val la' * val lb:=⟨_,rfl⟩
 obtain⟨s,hs⟩:∃s,s=zval na u+zval nb v:=⟨_,rfl⟩
 have zl4:=ud_ (zval na u) (zval nb v)
 rw[d0_,d0_,←hs] at zl4
 have HU:=hd_ hu
 have HV:=hd_ hv
 have HS:=hd_ hs
 rw[←hu] at zl1
 rw[←hv] at zl2
 have HQ:Hid (qval (zneg s) (val (dg s.natAbs)) (val (dg (val lb * val lb')))=qval na (val la) (val lb)+qval nb (val la') (val lb')):=hd_ (by rw[a3_,a3_];exact qval_add hd.out hd'.out s (by rw[hs,hu,hv]))
 clear hu hv hs
 go_enter Tryz.func113,Tryz.ntmps113
 unfold frV
 go_wp2
 generalize (((w.alloc (.cells #[.bool na,.slice a n cap,.slice b m cap'] 27)).alloc (.cells #[.bool nb,.slice a' n' c',.slice b' m' d'] 27)).alloc (.cells #[.bool false,.slice none 0 0,.slice none 0 0] 27))=W at *
 go_cut [5] from 8 to 15 (fun pv wx=>∃(g:Nat) (a1:OA_) (n1 c1:Nat),pv=.pointer (some ⟨g,0,none⟩)∧n1≤52428800000∧Hid (Wd wx a1 n1 c1 (dg u))∧Hid (wx.heap[g]? = some (.cells #[.bool na,.slice a1 n1 c1] 143 (0,0)))∧Hid (Below W.heap.size W wx))
 case first=>
  have HBd:Hid (Below W.heap.size W W.drew):=hd_ (Below.refl _ _).drew
  have pSn:=ba_ (ac_ HX.out HBd.out) (ac_ HY.out HBd.out)
  have pSa:=fun o=>ba_ (ac_ HX.out (ab_ HBd.out (aa_ _ o))) (ac_ HY.out (ab_ HBd.out (aa_ _ o)))
  have hW2:w.heap.size+1 < W.heap.size:=(Array.getElem?_eq_some_iff.1 HY.out).1
  go_region_held3 (fun w'=>w'.cell? ⟨w.heap.size,0,none⟩=some (.bool na)∧w'.cell? ⟨w.heap.size,1,none⟩=some (.slice a n cap)∧w'.cell? ⟨w.heap.size,2,none⟩=some (.slice b m cap')∧w'.cell? ⟨w.heap.size+1,0,none⟩=some (.bool nb)∧w'.cell? ⟨w.heap.size+1,1,none⟩=some (.slice a' n' c')∧w'.cell? ⟨w.heap.size+1,2,none⟩=some (.slice b' m' d')) (first | exact pSn | exact pSa _ | exact rSn | exact rSa _ | exact rSb _ _ _ (by omega) (by omega))
   (first
   | (go_at_call 99;refine (qd_ (v0:=W) ?q0 (fh_ a n cap la b' m' d' lb' _ (HA.out.later ?q1) (HC'.out.later ?q2) (by omega) (by omega))).mono ?_;(case q0=>first | exact HBd.out | exact ab_ HBd.out (aa_ _ _));(case q1=>first | exact HBd.out | exact ab_ HBd.out (aa_ _ _));(case q2=>first | exact HBd.out | exact ab_ HBd.out (aa_ _ _));rintro e w2 ⟨a2,n2,c2,rfl,h2,hb2,k2⟩;rw[←HU.out] at h2;have R2:=hd_ h2;have hn2:n2≤52428800000:=(by have:=h2.len;omega);have HB2:=hd_ hb2;have hW3:=hb2.size;(first | (have HN2:=hd_ (k2 _ _ (ai_ _ _ _))) | skip);(try (have r0:=ad_ HN2.out 0;have r1:=ad_ HN2.out 1;have f0:=ae_ HN2.out 0;have f1:=ae_ HN2.out 1;simp only[List.getElem?_toArray,List.getElem?_cons_zero,List.getElem?_cons_succ] at r0 r1));have rSn:=ba_ (ac_ HX.out hb2) (ac_ HY.out hb2);have rSa:=fun o=>ba_ (ac_ HX.out (ab_ hb2 (aa_ _ o))) (ac_ HY.out (ab_ hb2 (aa_ _ o)));have rSb:=fun g u v hg1 hg2=>ba_ (db_ (g:=g) (ac_ HX.out hb2) hg1 u v) (db_ (g:=g) (ac_ HY.out hb2) hg2 u v);clear h2 hb2 pSn pSa k2))
  all_goals (
   go_wp2
   go_meet
   first
   | exact⟨_,a2,n2,c2,rfl,hn2,hd_ (R2.out.later (aa_ _ _)),hd_ (ai_ _ _ _),hd_ (ab_ HB2.out (aa_ _ _))⟩
   | exact⟨_,a2,n2,c2,rfl,hn2,hd_ (R2.out.stored2 HN2.out _ _),hd_ (bj_ HN2.out _ _),hd_ (ay_ HB2.out (by omega) _ _)⟩)
 case rest=>
  obtain⟨g1,a1,n1,c1,rfl,hn1,R1,HP1,HBc⟩:=hcut
  replace HX:=hd_ (ac_ HX.out HBc.out)
  replace HY:=hd_ (ac_ HY.out HBc.out)
  replace HR:=hd_ (ac_ HR.out HBc.out)
  replace HA:=hd_ (HA.out.later HBc.out)
  replace HC:=hd_ (HC.out.later HBc.out)
  replace HA':=hd_ (HA'.out.later HBc.out)
  replace HC':=hd_ (HC'.out.later HBc.out)
  replace HB:=hd_ (ab_ HB.out HBc.out)
  clear HBc
  obtain⟨V,rfl⟩:∃V,V=wc:=⟨_,rfl⟩
  go_wp2
  go_cut [6] from 16 to 23 (fun pv wx=>∃(g:Nat) (a1:OA_) (n1 c1:Nat),pv=.pointer (some ⟨g,0,none⟩)∧n1≤52428800000∧Hid (Wd wx a1 n1 c1 (dg v))∧Hid (wx.heap[g]? = some (.cells #[.bool nb,.slice a1 n1 c1] 143 (0,0)))∧Hid (Below V.heap.size V wx))
  case first=>
   have HBd:Hid (Below V.heap.size V V.drew):=hd_ (Below.refl _ _).drew
   have pSn:=ba_ (ac_ HX.out HBd.out) (ac_ HY.out HBd.out)
   have pSa:=fun o=>ba_ (ac_ HX.out (ab_ HBd.out (aa_ _ o))) (ac_ HY.out (ab_ HBd.out (aa_ _ o)))
   have hW2:w.heap.size+1 < V.heap.size:=(Array.getElem?_eq_some_iff.1 HY.out).1
   go_region_held3 (fun w'=>w'.cell? ⟨w.heap.size,0,none⟩=some (.bool na)∧w'.cell? ⟨w.heap.size,1,none⟩=some (.slice a n cap)∧w'.cell? ⟨w.heap.size,2,none⟩=some (.slice b m cap')∧w'.cell? ⟨w.heap.size+1,0,none⟩=some (.bool nb)∧w'.cell? ⟨w.heap.size+1,1,none⟩=some (.slice a' n' c')∧w'.cell? ⟨w.heap.size+1,2,none⟩=some (.slice b' m' d')) (first | exact pSn | exact pSa _ | exact rSn | exact rSa _ | exact rSb _ _ _ (by omega) (by omega))
    (first
    | (go_at_call 99;refine (qd_ (v0:=V) ?q0 (fh_ a' n' c' la' b m cap' lb _ (HA'.out.later ?q1) (HC.out.later ?q2) (by omega) (by omega))).mono ?_;(case q0=>first | exact HBd.out | exact ab_ HBd.out (aa_ _ _));(case q1=>first | exact HBd.out | exact ab_ HBd.out (aa_ _ _));(case q2=>first | exact HBd.out | exact ab_ HBd.out (aa_ _ _));rintro e w2 ⟨a2,n2,c2,rfl,h2,hb2,k2⟩;rw[←HV.out] at h2;have R2:=hd_ h2;have hn2:n2≤52428800000:=(by have:=h2.len;omega);have HB2:=hd_ hb2;have hW3:=hb2.size;(first | (have HN2:=hd_ (k2 _ _ (ai_ _ _ _))) | skip);(try (have r0:=ad_ HN2.out 0;have r1:=ad_ HN2.out 1;have f0:=ae_ HN2.out 0;have f1:=ae_ HN2.out 1;simp only[List.getElem?_toArray,List.getElem?_cons_zero,List.getElem?_cons_succ] at r0 r1));have rSn:=ba_ (ac_ HX.out hb2) (ac_ HY.out hb2);have rSa:=fun o=>ba_ (ac_ HX.out (ab_ hb2 (aa_ _ o))) (ac_ HY.out (ab_ hb2 (aa_ _ o)));have rSb:=fun g u v hg1 hg2=>ba_ (db_ (g:=g) (ac_ HX.out hb2) hg1 u v) (db_ (g:=g) (ac_ HY.out hb2) hg2 u v);clear h2 hb2 pSn pSa k2))
   all_goals (
    go_wp2
    go_meet
    first
    | exact⟨_,a2,n2,c2,rfl,hn2,hd_ (R2.out.later (aa_ _ _)),hd_ (ai_ _ _ _),hd_ (ab_ HB2.out (aa_ _ _))⟩
    | exact⟨_,a2,n2,c2,rfl,hn2,hd_ (R2.out.stored2 HN2.out _ _),hd_ (bj_ HN2.out _ _),hd_ (ay_ HB2.out (by omega) _ _)⟩)
  case rest=>
   obtain⟨g2,a2,n2,c2,rfl,hn2,R2,HP2,HBc⟩:=hcut
   replace HX:=hd_ (ac_ HX.out HBc.out)
   replace HY:=hd_ (ac_ HY.out HBc.out)
   replace HR:=hd_ (ac_ HR.out HBc.out)
   replace HP1:=hd_ (ac_ HP1.out HBc.out)
   replace HA:=hd_ (HA.out.later HBc.out)
   replace HC:=hd_ (HC.out.later HBc.out)
   replace HA':=hd_ (HA'.out.later HBc.out)
   replace HC':=hd_ (HC'.out.later HBc.out)
   replace R1:=hd_ (R1.out.later HBc.out)
   replace HB:=hd_ (ab_ HB.out HBc.out)
   clear HBc
   have HVu:Hid (val (dg u)=u):=hd_ (a3_ _)
   have HVv:Hid (val (dg v)=v):=hd_ (a3_ _)
   clear HA HA'
   obtain⟨vk0,vk1,vk2,vk3,vk4,vk5,vk6,vk7,vk8,vk9,vk10,vk11,vk12⟩:=l5_ HX.out HY.out HP1.out HP2.out HR.out
   go_wp2_with fail
   refine (s5_ na a1 n1 c1 _ (zval na u) nb a2 n2 c2 _ (zval nb v) _ R1.out R2.out (by omega) (by omega) (by rw[HVu.out]) (by rw[HVv.out])).mono ?_
   rintro e wv1 ⟨a3,n3,c3,rfl,h3,b⟩
   clear vk0 vk1 vk2 vk3 vk4 vk5 vk6 vk7 vk8 vk9 vk10 vk11 vk12
   replace HB:=bt_ HB b
   replace HX:=bl_ HX b
   replace HY:=bl_ HY b
   replace HP1:=bl_ HP1 b
   replace HP2:=bl_ HP2 b
   replace HR:=bl_ HR b
   clear R1
   clear R2
   replace HC:=HC.l_ b
   replace HC':=HC'.l_ b
   clear b
   rw[←HS.out] at h3 ⊢
   have hn3:n3≤94371840000:=by have:=h3.len;omega
   have R3:=hd_ h3
   clear h3
   have hW9:w.heap.size+1+1 < wv1.heap.size:=(Array.getElem?_eq_some_iff.1 HR.out).1
   unfold whV
   have HP3:Hid ((World.alloc wv1 (.cells #[.bool (zneg s),.slice a3 n3 c3] 143)).heap[wv1.heap.size]? = some (.cells #[.bool (zneg s),.slice a3 n3 c3] 143 (0,0))):=hd_ (ai_ wv1 _ _)
   replace HB:=hd_ (ab_ HB.out (aa_ wv1 (.cells #[.bool (zneg s),.slice a3 n3 c3] 143)))
   replace HX:=hd_ (ac_ HX.out (aa_ wv1 (.cells #[.bool (zneg s),.slice a3 n3 c3] 143)))
   replace HY:=hd_ (ac_ HY.out (aa_ wv1 (.cells #[.bool (zneg s),.slice a3 n3 c3] 143)))
   replace HP1:=hd_ (ac_ HP1.out (aa_ wv1 (.cells #[.bool (zneg s),.slice a3 n3 c3] 143)))
   replace HP2:=hd_ (ac_ HP2.out (aa_ wv1 (.cells #[.bool (zneg s),.slice a3 n3 c3] 143)))
   replace HR:=hd_ (ac_ HR.out (aa_ wv1 (.cells #[.bool (zneg s),.slice a3 n3 c3] 143)))
   replace HC:=hd_ (HC.out.later (aa_ wv1 (.cells #[.bool (zneg s),.slice a3 n3 c3] 143)))
   replace HC':=hd_ (HC'.out.later (aa_ wv1 (.cells #[.bool (zneg s),.slice a3 n3 c3] 143)))
   replace R3:=hd_ (R3.out.later (aa_ wv1 (.cells #[.bool (zneg s),.slice a3 n3 c3] 143)))
   obtain⟨vk0,vk1,vk2,vk3,vk4,vk5,vk6,vk7⟩:=gd_ HX.out HY.out HP3.out
   go_wp2
   clear vk0 vk1 vk2 vk3 vk4 vk5 vk6 vk7
   generalize (wv1.alloc (.cells #[.bool (zneg s),.slice a3 n3 c3] 143))=Z at *
   replace HB:=bt_ HB (dw_ Z)
   replace HX:Hid (Z.drew.heap[w.heap.size]? = _):=hd_ HX.out
   replace HY:Hid (Z.drew.heap[w.heap.size+1]? = _):=hd_ HY.out
   replace HP3:Hid (Z.drew.heap[wv1.heap.size]? = _):=hd_ HP3.out
   replace HR:Hid (Z.drew.heap[w.heap.size+1+1]? = some (.cells #[.bool false,.slice none 0 0,.slice none 0 0] 27 (0,0))):=hd_ HR.out
   replace HC:=HC.l_ (dw_ Z)
   replace HC':=HC'.l_ (dw_ Z)
   replace R3:=R3.l_ (dw_ Z)
   have pSn:=gd_ HX.out HY.out HP3.out
   go_region_held3 (fun w'=>w'.cell? ⟨w.heap.size,0,none⟩=some (.bool na)∧w'.cell? ⟨w.heap.size,1,none⟩=some (.slice a n cap)∧w'.cell? ⟨w.heap.size,2,none⟩=some (.slice b m cap')∧w'.cell? ⟨w.heap.size+1,0,none⟩=some (.bool nb)∧w'.cell? ⟨w.heap.size+1,1,none⟩=some (.slice a' n' c')∧w'.cell? ⟨w.heap.size+1,2,none⟩=some (.slice b' m' d')∧w'.cell? ⟨wv1.heap.size,0,none⟩=some (.bool (zneg s))∧w'.cell? ⟨wv1.heap.size,1,none⟩=some (.slice a3 n3 c3)) (first | exact pSn | exact pSb _ _ _)
    (first
    | (go_at_call 99;(first
      | (refine (fh_ b m cap' lb b' m' d' lb' _ HC.out HC'.out (by omega) (by omega)).mono ?_;rintro e wp1 ⟨a4,n4,c4,rfl,h4,b⟩;replace HB:=bt_ HB b;replace HX:=bl_ HX b;replace HY:=bl_ HY b;replace HP3:=bl_ HP3 b;replace HR:=bl_ HR b;replace HC:=HC.l_ b;replace HC':=HC'.l_ b;replace R3:=R3.l_ b;have R4:=hd_ h4;have hn4:n4≤94371840000:=(by have:=h4.len;omega);clear h4;clear b;clear pSn;have pSn:=gd_ HX.out HY.out HP3.out;have pM1:=True.intro)))
    | (go_at_call 11;(first
      | (have pm1:=pM1;refine (fs_ _ a3 n3 c3 _ a4 n4 c4 _ _ R3.out R4.out (by omega) (by omega)).mono ?_;rintro e wp2 ⟨a5,n5,c5,a6,n6,c6,rfl,h5,h6,b⟩;replace HB:=bt_ HB b;replace HX:=bl_ HX b;replace HY:=bl_ HY b;replace HP3:=bl_ HP3 b;replace HR:=bl_ HR b;replace HC:=HC.l_ b;replace HC':=HC'.l_ b;replace R3:=R3.l_ b;clear R4;have R5:=hd_ h5;have R6:=hd_ h6;clear h5 h6;obtain⟨r0,r1,r2⟩:=f8_ HR.out;have f0:=ae_ HR.out 0;have f1:=ae_ HR.out 1;have f2:=ae_ HR.out 2;have pSb:=fun u v q=>gd_ (bk_ (g:=w.heap.size+1+1) HX.out (by omega) u v q) (bk_ (g:=w.heap.size+1+1) HY.out (by omega) u v q) (bk_ (g:=w.heap.size+1+1) HP3.out (by omega) u v q);unfold frV;clear b;clear pSn;have pSn:=gd_ HX.out HY.out HP3.out;clear pM1 pm1;have pM2:=True.intro))))
   rw[HQ.out] at R5 R6
   rw[HQ.out]
   generalize qval na (val la) (val lb)+qval nb (val la') (val lb')=q at *
   have HG:=hd_ (be_ HR.out (.bool (zneg q.num)) (.slice a5 n5 c5) (.slice a6 n6 c6))
   have HL:=hd_ (as_ HB.out (show w.heap.size≤w.heap.size+1+1 by omega) (.bool (zneg q.num)) (.slice a5 n5 c5) (.slice a6 n6 c6))
   have HW1:=hd_ (R5.out.stored3 HR.out (zneg q.num) a5 n5 c5 (.slice a6 n6 c6))
   have HW2:=hd_ (R6.out.stored3 HR.out (zneg q.num) a5 n5 c5 (.slice a6 n6 c6))
   go_wp2
   refine bodyPost_ret (results_cell_row Tryz.results113 _ _ (w.heap.size+1+1) 27 #[.bool (zneg q.num),.slice a5 n5 c5,.slice a6 n6 c6] (0,0) _ rfl HG.out Tryz.underlying27 rfl (by kernel_rfl)) rfl ?_
   exact⟨_,_,_,_,_,_,rfl,HW1.out,HW2.out,HL.out⟩
theorem qval_len(neg:Bool)(u v:Nat):(dg (qval neg u v).num.natAbs).length≤(dg u).length∧(dg (qval neg u v).den).length≤(dg v).length+1:=by
 by_cases hv:v=0
 ·rw[ef_ neg (.inl hv),show ((0:Rat).num).natAbs=0 from rfl,show (0:Rat).den=1 from rfl,cu_]
  have h1:(dg 1).length≤1:=bn_ (by decide)
  exact⟨by simp,by omega⟩
 ·obtain⟨h1,h2⟩:=e9_ neg (u:=u) hv
  rw[h1,h2,d0_]
  exact⟨ax_ (Nat.div_le_self _ _),Nat.le_trans (ax_ (Nat.div_le_self _ _)) (by omega)⟩
theorem den_nz(q:Rat):val (dg q.den)≠0:=by rw[a3_];exact q.den_nz

end Go.Proofs.YtocebjbjnfammaaGreat
