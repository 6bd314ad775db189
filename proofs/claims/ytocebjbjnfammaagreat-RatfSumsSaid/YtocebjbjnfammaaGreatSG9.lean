import Derived.Test.YtocebjbjnfammaaGreatSG6
import Derived.Deep.RegionHeld3
import Derived.Deep.RegionWith
import Derived.Deep.CutRange
import Derived.Test.YtocebjbjnfammaaGreatSG8
import Derived.Test.YtocebjbjnfammaaGreatSG7
import Derived.Test.YtocebjbjnfammaaGreatSG2
import Derived.Test.YtocebjbjnfammaaGreatSG3
import Derived.Test.YtocebjbjnfammaaGreatSG1
import Derived.BigRegion
import Derived.BigQuiet
import Derived.Deep.QuietTactic
import Derived.Deep.DeepMust
set_option maxRecDepth 4096
set_option maxHeartbeats 16000000
namespace Go.Proofs.YtocebjbjnfammaaGreat
open Go.RowKit
theorem fb_(a:OA_)(n cap:Nat)(la:List Nat)(b:OA_)(m cap':Nat)(lb:List Nat)(w:World)(ha:Wd w a n cap la)(hb:Wd w b m cap' lb):Calls Tryz.prog 116 #[.slice a n cap,.slice b m cap'] w (bi_ (.bool (decide (la=lb))) w):=
 (v1_ a n cap la b m cap' lb w ha hb).mono fun e w' ⟨he,q,hw⟩=>⟨he,by rw[hw];exact ek_ _ _⟩
theorem md_(s0:Bool)(a0:OA_)(n0 c0:Nat)(la0:List Nat)(b0:OA_)(m0 d0:Nat)(lb0:List Nat)(s1:Bool)(a1:OA_)(n1 c1:Nat)(la1:List Nat)(b1:OA_)(m1 d1:Nat)(lb1:List Nat)(w:World)(ha0:Wd w a0 n0 c0 la0)(hb0:Wd w b0 m0 d0 lb0)(ha1:Wd w a1 n1 c1 la1)(hb1:Wd w b1 m1 d1 lb1)(hs:s0≠s1) :
 Calls Tryz.prog 72 #[frV s0 a0 n0 c0 b0 m0 d0,frV s1 a1 n1 c1 b1 m1 d1] w (bi_ (.bool false) w):=by
 have HB:=hd_ (ab_ (aa_ w (.cells #[.bool s0,.slice a0 n0 c0,.slice b0 m0 d0] 27)) (aa_ _ (.cells #[.bool s1,.slice a1 n1 c1,.slice b1 m1 d1] 27)))
 have A0:=hd_ (ha0.later HB.out)
 have B0:=hd_ (hb0.later HB.out)
 have A1:=hd_ (ha1.later HB.out)
 have B1:=hd_ (hb1.later HB.out)
 obtain⟨hx0,hx1⟩:=c8_ w ((w.alloc (.cells #[.bool s0,.slice a0 n0 c0,.slice b0 m0 d0] 27)).alloc (.cells #[.bool s1,.slice a1 n1 c1,.slice b1 m1 d1] 27)) #[.bool s0,.slice a0 n0 c0,.slice b0 m0 d0] #[.bool s1,.slice a1 n1 c1,.slice b1 m1 d1] 27 27 (Below.refl _ _)
 have X0:=hd_ hx0
 have X1:=hd_ hx1
 clear hx0 hx1 ha0 hb0 ha1 hb1
 have hb2:(s0 == s1)=false:=by cases s0 <;> cases s1 <;> first | rfl | exact absurd rfl hs
 clear hs
 go_enter Tryz.func72,Tryz.ntmps72
 unfold frV
 obtain⟨k0,k1,k2,k3,k4,k5⟩:=bg_ X0.out X1.out
 go_wp2
 go_ret
 exact⟨rfl,HB.out⟩
theorem m2_(s0:Bool)(a0:OA_)(n0 c0:Nat)(la0:List Nat)(b0:OA_)(m0 d0:Nat)(lb0:List Nat)(s1:Bool)(a1:OA_)(n1 c1:Nat)(la1:List Nat)(b1:OA_)(m1 d1:Nat)(lb1:List Nat)(w:World)(ha0:Wd w a0 n0 c0 la0)(hb0:Wd w b0 m0 d0 lb0)(ha1:Wd w a1 n1 c1 la1)(hb1:Wd w b1 m1 d1 lb1)(hs:s0=s1)(hl:la0≠la1) :
 Calls Tryz.prog 72 #[frV s0 a0 n0 c0 b0 m0 d0,frV s1 a1 n1 c1 b1 m1 d1] w (bi_ (.bool false) w):=by
 have HB:=hd_ (ab_ (aa_ w (.cells #[.bool s0,.slice a0 n0 c0,.slice b0 m0 d0] 27)) (aa_ _ (.cells #[.bool s1,.slice a1 n1 c1,.slice b1 m1 d1] 27)))
 have A0:=hd_ (ha0.later HB.out)
 have B0:=hd_ (hb0.later HB.out)
 have A1:=hd_ (ha1.later HB.out)
 have B1:=hd_ (hb1.later HB.out)
 obtain⟨hx0,hx1⟩:=c8_ w ((w.alloc (.cells #[.bool s0,.slice a0 n0 c0,.slice b0 m0 d0] 27)).alloc (.cells #[.bool s1,.slice a1 n1 c1,.slice b1 m1 d1] 27)) #[.bool s0,.slice a0 n0 c0,.slice b0 m0 d0] #[.bool s1,.slice a1 n1 c1,.slice b1 m1 d1] 27 27 (Below.refl _ _)
 have X0:=hd_ hx0
 have X1:=hd_ hx1
 clear hx0 hx1 ha0 hb0 ha1 hb1
 subst hs
 have hb2:(s0 == s0)=true:=by cases s0 <;> rfl
 have HL:=hd_ hl
 clear hl
 go_enter Tryz.func72,Tryz.ntmps72
 unfold frV
 obtain⟨k0,k1,k2,k3,k4,k5⟩:=bg_ X0.out X1.out
 go_wp2_with fail
 refine (fb_ a0 n0 c0 la0 a1 n1 c1 la1 _ A0.out A1.out).mono ?_
 rintro e w1 ⟨rfl,b⟩
 clear k0 k1 k2 k3 k4 k5
 replace HB:=bt_ HB b
 replace X0:=bl_ X0 b
 replace X1:=bl_ X1 b
 replace A0:=A0.l_ b
 replace B0:=B0.l_ b
 replace A1:=A1.l_ b
 replace B1:=B1.l_ b
 clear b
 rw[decide_eq_false HL.out]
 obtain⟨k0,k1,k2,k3,k4,k5⟩:=bg_ X0.out X1.out
 go_wp2
 go_ret
 exact⟨rfl,HB.out⟩
theorem mw_(s0:Bool)(a0:OA_)(n0 c0:Nat)(la0:List Nat)(b0:OA_)(m0 d0:Nat)(lb0:List Nat)(s1:Bool)(a1:OA_)(n1 c1:Nat)(la1:List Nat)(b1:OA_)(m1 d1:Nat)(lb1:List Nat)(w:World)(ha0:Wd w a0 n0 c0 la0)(hb0:Wd w b0 m0 d0 lb0)(ha1:Wd w a1 n1 c1 la1)(hb1:Wd w b1 m1 d1 lb1)(hs:s0=s1)(hl:la0=la1)(hk:lb0≠lb1) :
 Calls Tryz.prog 72 #[frV s0 a0 n0 c0 b0 m0 d0,frV s1 a1 n1 c1 b1 m1 d1] w (bi_ (.bool false) w):=by
 have HB:=hd_ (ab_ (aa_ w (.cells #[.bool s0,.slice a0 n0 c0,.slice b0 m0 d0] 27)) (aa_ _ (.cells #[.bool s1,.slice a1 n1 c1,.slice b1 m1 d1] 27)))
 have A0:=hd_ (ha0.later HB.out)
 have B0:=hd_ (hb0.later HB.out)
 have A1:=hd_ (ha1.later HB.out)
 have B1:=hd_ (hb1.later HB.out)
 obtain⟨hx0,hx1⟩:=c8_ w ((w.alloc (.cells #[.bool s0,.slice a0 n0 c0,.slice b0 m0 d0] 27)).alloc (.cells #[.bool s1,.slice a1 n1 c1,.slice b1 m1 d1] 27)) #[.bool s0,.slice a0 n0 c0,.slice b0 m0 d0] #[.bool s1,.slice a1 n1 c1,.slice b1 m1 d1] 27 27 (Below.refl _ _)
 have X0:=hd_ hx0
 have X1:=hd_ hx1
 clear hx0 hx1 ha0 hb0 ha1 hb1
 subst hs
 have hb2:(s0 == s0)=true:=by cases s0 <;> rfl
 have HL:=hd_ hl
 clear hl
 have HK:=hd_ hk
 clear hk
 go_enter Tryz.func72,Tryz.ntmps72
 unfold frV
 obtain⟨k0,k1,k2,k3,k4,k5⟩:=bg_ X0.out X1.out
 go_wp2_with fail
 refine (fb_ a0 n0 c0 la0 a1 n1 c1 la1 _ A0.out A1.out).mono ?_
 rintro e w1 ⟨rfl,b⟩
 clear k0 k1 k2 k3 k4 k5
 replace HB:=bt_ HB b
 replace X0:=bl_ X0 b
 replace X1:=bl_ X1 b
 replace A0:=A0.l_ b
 replace B0:=B0.l_ b
 replace A1:=A1.l_ b
 replace B1:=B1.l_ b
 clear b
 rw[decide_eq_true HL.out]
 obtain⟨k0,k1,k2,k3,k4,k5⟩:=bg_ X0.out X1.out
 go_wp2_with fail
 refine (fb_ b0 m0 d0 lb0 b1 m1 d1 lb1 _ B0.out B1.out).mono ?_
 rintro e w2 ⟨rfl,b⟩
 clear k0 k1 k2 k3 k4 k5
 replace HB:=bt_ HB b
 replace X0:=bl_ X0 b
 replace X1:=bl_ X1 b
 replace A0:=A0.l_ b
 replace B0:=B0.l_ b
 replace A1:=A1.l_ b
 replace B1:=B1.l_ b
 clear b
 rw[decide_eq_false HK.out]
 obtain⟨k0,k1,k2,k3,k4,k5⟩:=bg_ X0.out X1.out
 go_wp2
 go_ret
 exact⟨rfl,HB.out⟩
theorem ks_(s0:Bool)(a0:OA_)(n0 c0:Nat)(la0:List Nat)(b0:OA_)(m0 d0:Nat)(lb0:List Nat)(s1:Bool)(a1:OA_)(n1 c1:Nat)(la1:List Nat)(b1:OA_)(m1 d1:Nat)(lb1:List Nat)(w:World)(ha0:Wd w a0 n0 c0 la0)(hb0:Wd w b0 m0 d0 lb0)(ha1:Wd w a1 n1 c1 la1)(hb1:Wd w b1 m1 d1 lb1)(hs:s0=s1)(hl:la0=la1)(hk:lb0=lb1) :
 Calls Tryz.prog 72 #[frV s0 a0 n0 c0 b0 m0 d0,frV s1 a1 n1 c1 b1 m1 d1] w (bi_ (.bool true) w):=by
 have HB:=hd_ (ab_ (aa_ w (.cells #[.bool s0,.slice a0 n0 c0,.slice b0 m0 d0] 27)) (aa_ _ (.cells #[.bool s1,.slice a1 n1 c1,.slice b1 m1 d1] 27)))
 have A0:=hd_ (ha0.later HB.out)
 have B0:=hd_ (hb0.later HB.out)
 have A1:=hd_ (ha1.later HB.out)
 have B1:=hd_ (hb1.later HB.out)
 obtain⟨hx0,hx1⟩:=c8_ w ((w.alloc (.cells #[.bool s0,.slice a0 n0 c0,.slice b0 m0 d0] 27)).alloc (.cells #[.bool s1,.slice a1 n1 c1,.slice b1 m1 d1] 27)) #[.bool s0,.slice a0 n0 c0,.slice b0 m0 d0] #[.bool s1,.slice a1 n1 c1,.slice b1 m1 d1] 27 27 (Below.refl _ _)
 have X0:=hd_ hx0
 have X1:=hd_ hx1
 clear hx0 hx1 ha0 hb0 ha1 hb1
 subst hs
 have hb2:(s0 == s0)=true:=by cases s0 <;> rfl
 have HL:=hd_ hl
 clear hl
 have HK:=hd_ hk
 clear hk
 go_enter Tryz.func72,Tryz.ntmps72
 unfold frV
 obtain⟨k0,k1,k2,k3,k4,k5⟩:=bg_ X0.out X1.out
 go_wp2_with fail
 refine (fb_ a0 n0 c0 la0 a1 n1 c1 la1 _ A0.out A1.out).mono ?_
 rintro e w1 ⟨rfl,b⟩
 clear k0 k1 k2 k3 k4 k5
 replace HB:=bt_ HB b
 replace X0:=bl_ X0 b
 replace X1:=bl_ X1 b
 replace A0:=A0.l_ b
 replace B0:=B0.l_ b
 replace A1:=A1.l_ b
 replace B1:=B1.l_ b
 clear b
 rw[decide_eq_true HL.out]
 obtain⟨k0,k1,k2,k3,k4,k5⟩:=bg_ X0.out X1.out
 go_wp2_with fail
 refine (fb_ b0 m0 d0 lb0 b1 m1 d1 lb1 _ B0.out B1.out).mono ?_
 rintro e w2 ⟨rfl,b⟩
 clear k0 k1 k2 k3 k4 k5
 replace HB:=bt_ HB b
 replace X0:=bl_ X0 b
 replace X1:=bl_ X1 b
 replace A0:=A0.l_ b
 replace B0:=B0.l_ b
 replace A1:=A1.l_ b
 replace B1:=B1.l_ b
 clear b
 rw[decide_eq_true HK.out]
 obtain⟨k0,k1,k2,k3,k4,k5⟩:=bg_ X0.out X1.out
 go_wp2
 go_ret
 exact⟨rfl,HB.out⟩
theorem v5_(s0:Bool)(a0:OA_)(n0 c0:Nat)(la0:List Nat)(b0:OA_)(m0 d0:Nat)(lb0:List Nat)(s1:Bool)(a1:OA_)(n1 c1:Nat)(la1:List Nat)(b1:OA_)(m1 d1:Nat)(lb1:List Nat)(w:World)(ha0:Wd w a0 n0 c0 la0)(hb0:Wd w b0 m0 d0 lb0)(ha1:Wd w a1 n1 c1 la1)(hb1:Wd w b1 m1 d1 lb1) :
 Calls Tryz.prog 72 #[frV s0 a0 n0 c0 b0 m0 d0,frV s1 a1 n1 c1 b1 m1 d1] w (bi_ (.bool (decide (s0=s1∧la0=la1∧lb0=lb1))) w):=by
 by_cases hs:s0=s1
 ·by_cases hl:la0=la1
  ·by_cases hk:lb0=lb1
   ·rw[decide_eq_true ⟨hs,hl,hk⟩];exact ks_ s0 a0 n0 c0 la0 b0 m0 d0 lb0 s1 a1 n1 c1 la1 b1 m1 d1 lb1 w ha0 hb0 ha1 hb1 hs hl hk
   ·rw[decide_eq_false (fun h=>hk h.2.2)];exact mw_ s0 a0 n0 c0 la0 b0 m0 d0 lb0 s1 a1 n1 c1 la1 b1 m1 d1 lb1 w ha0 hb0 ha1 hb1 hs hl hk
  ·rw[decide_eq_false (fun h=>hl h.2.1)];exact m2_ s0 a0 n0 c0 la0 b0 m0 d0 lb0 s1 a1 n1 c1 la1 b1 m1 d1 lb1 w ha0 hb0 ha1 hb1 hs hl
 ·rw[decide_eq_false (fun h=>hs h.1)];exact md_ s0 a0 n0 c0 la0 b0 m0 d0 lb0 s1 a1 n1 c1 la1 b1 m1 d1 lb1 w ha0 hb0 ha1 hb1 hs

theorem jz_(a:OA_)(n c:Nat)(L:List Fx)(K N:Int)(r:Bool)(w:World)(h:Fxs w a n c L)(hK:0≤K∧K≤1000)(hr:Hid (r=true↔¬((n:Int)≤K∧thinI N L))) :
 Calls Tryz.prog 45 #[.slice a n c,.int .i64 K,.int .i64 N] w (bi_ (.bool r) w):=by
 have HK:=hd_ h
 have HLl:=hd_ h.len
 have hbd:=h.bound
 obtain⟨hK0,hK1⟩:=hK
 clear h
 go_enter Tryz.func45,Tryz.ntmps45
 go_wp2
 go_loopw [7] (fun iv wr=>∃k:Nat,k≤n∧(k:Int)≤K∧iv=.int .i64 (k:Int)∧Hid (thinI N (L.take k))∧Hid (Below w.heap.size w wr)) (fun iv _=>n - (intOf iv).toNat)
 case atStart=>exact⟨0,by omega,by omega,rfl,hd_ (fun x hx=>by simp at hx),hd_ (Below.refl _ _)⟩
 case round=>
  obtain⟨k,hk,hkK,rfl,HTh,HB⟩:=hrel
  by_cases hlt:k < n
  ·have hki:(k:Int) < (n:Int):=by omega
   by_cases hltK:(k:Int) < K
   ·obtain⟨bb,off,rfl,e0,e1,e2,-⟩:=HK.out.at hlt
    have HT:Hid (L.take (k+1)=L.take k ++ [L.getD k Fx.zero]):=hd_ (mh_ (by rw[HLl.out];exact hlt))
    have HM:Hid (L.getD k Fx.zero∈L):=hd_ (es_ (by rw[HLl.out];exact hlt))
    generalize L.getD k Fx.zero=xk at *
    obtain⟨sk,ak,nk,ck,lak,bk,mk,dk,lbk⟩:=xk
    simp only at e0 e1 e2
    have HE:Hid (w.cell? ⟨bb,off+k * 3,none⟩=some (.bool sk)∧w.cell? ⟨bb,off+k * 3+1,none⟩=some (.slice ak nk ck)∧w.cell? ⟨bb,off+k * 3+2,none⟩=some (.slice bk mk dk)):=hd_ ⟨e0,e1,e2⟩
    clear e0 e1 e2
    obtain⟨e0,e1,e2⟩:=aq_ HE.out HB.out
    go_wp2_with fail
    refine (vb_ sk ak nk ck bk mk dk N _).mono ?_
    rintro e w4 ⟨rfl,b4⟩
    clear e0 e1 e2
    replace HB:=bt_ HB b4
    clear b4
    by_cases hb:N < (nk:Int)∨N < (mk:Int)
    ·have hl:(decide (N < (nk:Int)) || decide (N < (mk:Int)))=true:=by
      rw[Bool.or_eq_true]
      exact hb.imp decide_eq_true decide_eq_true
     rw[hl]
     have hrt:r=true:=hr.out.2 (fun h8=>by
      have:=h8.2 _ HM.out
      simp only at this
      omega)
     subst hrt
     clear hl hb
     go_wp2
     go_ret
     exact⟨rfl,HB.out⟩
    ·have hl:(decide (N < (nk:Int)) || decide (N < (mk:Int)))=false:=by
      rw[decide_eq_false (fun h=>hb (.inl h)),decide_eq_false (fun h=>hb (.inr h))];rfl
     rw[hl]
     have HTh9:Hid (thinI N (L.take (k+1))):=hd_ (fun x hx=>by
      rw[HT.out] at hx
      rcases List.mem_append.1 hx with hx | hx
      ·exact HTh.out x hx
      ·rw[List.mem_singleton.1 hx]
       simp only
       omega)
     clear hl hb HTh HT HM
     go_wp2
     go_roundw
     case rel=>exact⟨k+1,by omega,by omega,by go_num,HTh9,HB⟩
     case measure=>simp[intOf];omega
   ·have hrt:r=true:=hr.out.2 (fun h8=>by have:=h8.1;omega)
    have hnk:K < (n:Int):=by omega
    subst hrt
    go_wp2
    go_ret
    exact⟨rfl,HB.out⟩
  ·obtain rfl:k=n:=by omega
   have hrf:r=false:=by
    cases r with
    | false=>rfl
    | true=>
      refine absurd (hr.out.1 rfl) (fun h8=>h8 ⟨hkK,?_⟩)
      have h9:=HTh.out
      rwa [List.take_of_length_le (by rw[HLl.out];exact Nat.le_refl _)] at h9
   subst hrf
   have hnk:¬K < (k:Int):=by omega
   go_wp2
   go_ret
   exact⟨rfl,HB.out⟩
theorem rcut_lt{n:Int}{k:Nat}:k < rcut n↔(k:Int) < n∧(k:Int) < 300:=by unfold rcut;omega
theorem rcut_le(n:Int):rcut n≤300:=by unfold rcut;omega
theorem reps_more{k m:Nat}(h:k < m):(List.replicate m (0:Rat)).take (k+1)=(List.replicate m (0:Rat)).take k ++ [0]:=by
 rw[List.take_replicate,List.take_replicate,Nat.min_eq_left (by omega),Nat.min_eq_left (by omega),List.replicate_succ']
theorem m4_(z:Int)(w:World):Calls Tryz.prog 98 #[.int .i64 z] w (LstRow 27 (List.replicate (rcut z) 0) w):=by
 obtain⟨n,hnz⟩:∃n,rcut z=n:=⟨_,rfl⟩
 have hn3:n≤300:=hnz▸rcut_le z
 have hlt':∀k:Nat,k < n↔(k:Int) < z∧(k:Int) < 300:=fun k=>hnz▸rcut_lt
 rw[hnz]
 have HLT:=hd_ hlt'
 clear hlt' hnz
 obtain⟨T,hT⟩:∃T,List.replicate n (0:Rat)=T:=⟨_,rfl⟩
 have HTm:Hid (∀k,k < n→T.take (k+1)=T.take k ++ [0]):=hd_ (fun k hk=>hT▸reps_more hk)
 have HTL:Hid (T.length=n):=hd_ (by rw[←hT,List.length_replicate])
 rw[hT]
 clear hT
 obtain⟨q0,hq0⟩:∃q:Rat,((0:Int):Rat)=q:=⟨_,rfl⟩
 have HQ0:Hid (q0=0):=hd_ (by rw[←hq0];rfl)
 have EQ:=hd_ hq0
 clear hq0
 obtain⟨i0,hi,hz0,hz1,hz2⟩:=info_parts eb_
 go_enter Tryz.func98,Tryz.ntmps98
 go_wp2
 go_loopw [3,4] (fun mv iv wr=>∃k:Nat,k≤n∧iv=.int .i64 (k:Int)∧Hid (Row wr w.heap.size 27 mv (T.take k))∧Hid (Below w.heap.size w wr)∧w.heap.size≤wr.heap.size) (fun _ iv _=>n - (intOf iv).toNat)
 case atStart=>exact⟨0,by omega,rfl,hd_ (Row.nil _ _ _),hd_ (Below.refl _ _),by omega⟩
 case round=>
  obtain⟨k,hk,rfl,HO,HB,hsz⟩:=hrel
  by_cases hlt:k < n
  ·obtain⟨hk1,hk2⟩:=(HLT.out k).1 hlt
   have HT:Hid (T.take (k+1)=T.take k ++ [q0]):=hd_ (by rw[HTm.out k hlt,HQ0.out])
   have hkL:(T.take k).length≤1000000:=by rw[cq_ (by rw[HTL.out];exact hk)];omega
   go_wp2_with fail
   refine (cz_ 0 _ c3_).mono ?_
   rintro e w4 ⟨a4,n4,c4,b4,m4,d4,rfl,h4,g4,bw⟩
   rw[EQ.out] at h4 g4 ⊢
   replace HB:=bt_ HB bw
   replace HO:=HO.l_ bw
   have hsz4:w.heap.size≤w4.heap.size:=Nat.le_trans hsz bw.size
   have HA4:=hd_ h4
   have HB4:=hd_ g4
   clear bw hsz h4 g4
   unfold frV
   have ba:=aa_ w4 (.cells #[.bool (zneg q0.num),.slice a4 n4 c4,.slice b4 m4 d4] 27)
   have HOa:=HO.l_ ba
   have HBa:=hd_ (ab_ HB.out ba)
   have HAa:=HA4.l_ ba
   have HCa:=HB4.l_ ba
   clear ba HO HB HA4 HB4
   go_wp2_with (at_builtin;refine c4_ _ rfl _ _ 22 rfl w.heap.size 27 i0 Tryz.underlying22 hi hz0 hz1 hz2 _ (T.take k) rfl HOa.out ⟨w4.heap.size,0,none⟩ q0 a4 n4 c4 b4 m4 d4 rfl (gy_ _ _ _ _ _ _ _ _ _) HAa.out HCa.out hkL (by rw[al_];omega) ?_)
   intro mv5 w5 hrow hgrow hbase hcl
   have HO5:Hid (Row w5 w.heap.size 27 mv5 (T.take (k+1))):=hd_ (by rw[HT.out];exact hrow)
   have HB5:=hd_ (HBa.out.grown hgrow (by rw[al_];omega) hbase)
   have hsz5:w.heap.size≤w5.heap.size:=Nat.le_trans (by rw[al_];omega) hgrow.size
   clear hrow hgrow hbase hcl HOa HBa HAa HCa HT hsz4
   go_wp2
   go_roundw
   case rel=>exact⟨k+1,by omega,by go_num,HO5,HB5,hsz5⟩
   case measure=>simp[intOf];omega
  ·obtain rfl:k=n:=by omega
   have HF:=hd_ (HO.out.whole HTL.out)
   clear HO
   have hno:¬((k:Int) < z∧(k:Int) < 300):=fun h=>hlt ((HLT.out k).2 h)
   by_cases hkz:(k:Int) < z
   ·have hk3:¬(k:Int) < 300:=fun h=>hno ⟨hkz,h⟩
    clear hno
    go_wp2
    go_ret
    exact⟨_,rfl,HF.out,HB.out⟩
   ·clear hno
    go_wp2
    go_ret
    exact⟨_,rfl,HF.out,HB.out⟩
theorem fxs_cells{w:World}{b off n cap:Nat}{L:List Fx}(h:Fxs w (some ⟨b,off,none⟩) n cap L):∀j u,(L.flatMap Fx.cells)[j]? = some u→w.cell? ((⟨b,off,none⟩:Addr).add j)=some u:=by
 intro j u hu
 have hj:j < (L.flatMap Fx.cells).length:=(List.getElem?_eq_some_iff.1 hu).1
 rw[b2_] at hj
 have hl:=h.len
 rcases h.2.2.2.2.2 with h0 | ⟨b',off',e,hc⟩
 ·omega
 ·simp only[Option.some.injEq,Addr.mk.injEq,and_true] at e
  obtain⟨rfl,rfl⟩:=e
  rw[Go.WideShapes.add_plain]
  obtain⟨i,hi⟩:∃i,j / 3=i:=⟨_,rfl⟩
  have hil:i < L.length:=by omega
  obtain⟨f0,f1,f2⟩:=fy_ L i hil
  obtain⟨c0,c1,c2⟩:=hc i (by omega)
  have h3:j=i * 3∨j=i * 3+1∨j=i * 3+2:=by omega
  rcases h3 with e | e | e
  ·rw[e] at hu ⊢;rw[f0] at hu;rw[←hu];exact c0
  ·rw[e] at hu ⊢;rw[f1] at hu;rw[←hu,←Nat.add_assoc];exact c1
  ·rw[e] at hu ⊢;rw[f2] at hu;rw[←hu,←Nat.add_assoc];exact c2
theorem fxs_take{w:World}{a:Option Addr}{n cap:Nat}{L:List Fx}(h:Fxs w a n cap L){k:Nat}(hk:k≤n):Fxs w a k cap (L.take k):=by
 obtain⟨h1,h2,h3,h4,h6,h5⟩:=h
 refine ⟨by rw[List.length_take];omega,by omega,h3,h4,fun x hx=>h6 x (List.mem_of_mem_take hx),?_⟩
 rcases h5 with h0 | ⟨b,off,e,hc⟩
 ·exact .inl (by omega)
 ·refine .inr ⟨b,off,e,fun j hj=>?_⟩
  have h7:=hc j (by omega)
  have e2:(L.take k).getD j Fx.zero=L.getD j Fx.zero:=by
   rw[List.getD_eq_getElem?_getD,List.getElem?_take,if_pos hj,←List.getD_eq_getElem?_getD]
  rw[e2]
  exact h7
theorem rw_take{w:World}{a:Option Addr}{n cap:Nat}{qs:List Rat}(h:Rw w a n cap qs){k:Nat}(hk:k≤n):Rw w a k cap (qs.take k):=by
 obtain⟨L,h1,h2,h3⟩:=h
 exact⟨L.take k,fxs_take h1 hk,by rw[List.map_take,h2],fun x hx=>h3 x (List.mem_of_mem_take hx)⟩
theorem flat_one(L:List Fx):∀u∈L.flatMap Fx.cells,u.oneCell'=true:=fun u hu=>by
 obtain⟨x,_,hx⟩:=List.mem_flatMap.1 hu
 exact hm_ x u hx
theorem rw_own{w:World}{base:Nat}{e:TypeId}{v:Value}{n:Nat}{L:List Fx}(h:w.ownsRow base e 3 v n (L.flatMap Fx.cells))(hn:n=L.length)(hok:∀x∈L,x.ok w)(hr:∀x∈L,x.right):∃(a:OA_) (c:Nat),v=.slice a n c∧Rw w a n c (L.map Fx.q):=by
 subst hn
 rcases h.2 with ⟨rfl,h0⟩ | ⟨g,cap,cur,rfl,hbg,hg⟩
 ·exact⟨none,0,by rw[h0],L,Fxs.own (by rw[h0];exact h0▸h) rfl hok,rfl,hr⟩
 ·exact⟨_,cap,rfl,L,Fxs.own h rfl hok,rfl,hr⟩
theorem ea_(a:OA_)(n c:Nat)(qs:LR_)(w:World)(h:Rw w a n c qs)(hn:n≤1000)(hq:∀q∈qs,qlen q≤15728640000) :
 Calls Tryz.prog 49 #[.slice a n c] w (b8_ (ah_ qs) w):=by
 have hbd:=h.bound
 have H:=hd_ h
 have HQ:=hd_ hq
 have HL:=hd_ h.len
 clear h hq
 go_enter Tryz.func49,Tryz.ntmps49
 go_wp2
 go_loopw [3] (fun iv wr=>∃k:Nat,k≤n∧iv=.int .i64 (k:Int)∧Hid (ah_ (qs.take k)=ah_ qs)∧Hid (Below w.heap.size w wr)) (fun iv _=>(intOf iv).toNat)
 case atStart=>exact⟨n,by omega,rfl,hd_ (by rw[List.take_of_length_le (by rw[HL.out];exact Nat.le_refl _)]),hd_ (Below.refl _ _)⟩
 case round=>
  obtain⟨k,hk,rfl,HN,HB⟩:=hrel
  cases k with
  | zero=>
    have HE:Hid (ah_ qs=[]):=hd_ (by rw[←HN.out];rfl)
    clear HN
    obtain⟨i0,hi,hz0,hz1,hz2⟩:=info_parts eb_
    cases a with
    | none=>
      have hc0:c=0:=by
       obtain⟨L,h1,_⟩:=H.out
       exact h1.2.2.2.1 rfl
      have hn0:n=0:=by omega
      subst hc0
      subst hn0
      go_wp2_with (at_builtin;refine wpList_append_own_none rfl _ _ 22 rfl w.heap.size 27 i0 3 Tryz.underlying22 hi _ 0 [] rfl (World.ownsRow_lit _ #[] 0 HB.out.size (by decide) rfl) rfl ?_)
      go_ret
      refine ⟨_,0,_,rfl,?_,ab_ HB.out (aa_ _ _)⟩
      rw[HE.out]
      exact⟨[],⟨rfl,Nat.le_refl _,by omega,fun e=>(by first | rfl | cases e),fun x hx=>by simp at hx,.inl rfl⟩,rfl,fun x hx=>by simp at hx⟩
    | some ad=>
      go_wp2
      go_ret
      refine ⟨_,0,_,rfl,?_,ab_ HB.out (aa_ _ _)⟩
      rw[HE.out]
      exact⟨[],⟨rfl,Nat.le_refl _,by omega,fun e=>(by first | rfl | cases e),fun x hx=>by simp at hx,.inl rfl⟩,rfl,fun x hx=>by simp at hx⟩
  | succ k=>
    obtain⟨b,off,rfl,a1,n1,c1,b1,m1,d1,⟨e0,e1,e2⟩,hA,hD⟩:=(H.out.later HB.out).at (j:=k) (by omega)
    have hqk:=HQ.out _ (f4_ (L:=qs) (k:=k) (by rw[HL.out];omega))
    have hn1:n1≤15728640000:=by rw[←hA.len];exact Nat.le_trans (a8_ _) hqk
    have hm1:m1≤15728640000:=by rw[←hD.len];exact Nat.le_trans (a7_ _) hqk
    have hki:(k:Int) < (n:Int):=by omega
    obtain⟨qk,hqe⟩:∃q,qs.getD k 0=q:=⟨_,rfl⟩
    rw[hqe] at hA hD e0
    have HZ:=p0_ _ qk wr (Rt.of hA hD hn1 hm1)
    by_cases hz:qk=0
    ·rw[decide_eq_true hz] at HZ
     have HN2:Hid (ah_ (qs.take k)=ah_ qs):=hd_ (by rw[←HN.out];exact (pnorm_cut (by rw[hqe];exact hz)).symm)
     clear hz hqe hA hD hqk HN
     go_wp2_with fail
     refine HZ.mono ?_
     rintro e w1 ⟨rfl,b1⟩
     have HB1:=hd_ (ab_ HB.out b1)
     clear b1 e0 e1 e2 HZ HB
     go_wp2
     go_roundw
     case rel=>exact⟨k,by omega,by go_num,HN2,HB1⟩
     case measure=>simp[intOf]
    ·rw[decide_eq_false hz] at HZ
     have HN2:Hid (ah_ qs=qs.take (k+1)):=hd_ (by rw[←HN.out];exact vj_ (by rw[HL.out];omega) (by rw[hqe];exact hz))
     clear hz hqe hA hD hqk HN
     obtain⟨i0,hi,hz0,hz1,hz2⟩:=info_parts eb_
     go_wp2_with fail
     refine HZ.mono ?_
     rintro e w1 ⟨rfl,b1⟩
     have HB1:=hd_ (ab_ HB.out b1)
     have hT:=rw_take (H.out.later HB1.out) (k:=k+1) hk
     obtain⟨L,hL,hLq,hLr⟩:=hT
     have hLl:L.length=k+1:=hL.len
     have HLL:=hd_ hL
     have HLQ:=hd_ hLq
     have HLR:=hd_ hLr
     have HLN:=hd_ hLl
     clear b1 e0 e1 e2 HZ HB hL hLq hLr hLl
     have hzw:c7_ (Value.agg #[.bool false,.slice none 0 0,.slice none 0 0]).cells.toList:=by
      intro u hu k
      simp[Value.cells] at hu
      rcases hu with rfl | rfl <;> simp
     have HZW:=hd_ hzw
     clear hzw
     go_wp2_with (at_builtin;refine el_ _ rfl _ _ 22 rfl w.heap.size 27 i0 (.agg #[.bool false,.slice none 0 0,.slice none 0 0]) 3 56 Tryz.underlying22 hi hz0 hz1 hz2 rfl (by decide) _ 0 [] rfl (World.ownsRow_lit _ #[] 0 HB1.out.size (by decide) rfl) ⟨b,off,none⟩ (k+1) c (L.flatMap Fx.cells) rfl (by rw[b2_,HLN.out]) (fxs_cells (HLL.out.later (aa_ _ _))) (flat_one L) (by unfold maxLen;omega) (by omega) (by rw[al_];exact Nat.le_succ_of_le HB1.out.size) (by omega) (ce_ (ai_ _ #[] _) (fun u hu=>by simp at hu)) HZW.out (dh_ _) (fun u hu=>by simp at hu) ?_)
     intro v' w2 hown hgrow hcl
     have HBa:=hd_ ((ab_ HB1.out (aa_ _ _)).grown hgrow (by rw[al_];exact Nat.le_succ_of_le HB1.out.size) (by intro k hk;simp[Value.ownBlock] at hk;have:=HB1.out.size;omega))
     have hok:∀x∈L,x.ok w2:=fun x hx=>Fx.aside ((HLL.out.ok hx).later (aa_ _ _)) (ce_ (ai_ _ #[] _) (fun u hu=>by simp at hu)) hgrow
     obtain⟨a',c',rfl,hrw⟩:=rw_own hown (by rw[HLN.out]) hok HLR.out
     have HR:=hd_ hrw
     clear hown hgrow hcl hok hrw
     go_wp2
     go_ret
     refine ⟨a',k+1,c',rfl,?_,HBa.out⟩
     rw[HN2.out,←HLQ.out]
     exact HR.out
theorem ov_(z:Int):zval (zneg z) (val (dg z.natAbs))=z:=by rw[a1_,hk_]
structure WholeSaid:Prop where
def OwnPost (w0:World) (v:Nat) (e:Ending) (w':World):Prop:=
 ∃g n cap:Nat,e=.returned (.slice (some ⟨g,0,none⟩) n cap)∧Hid (Own w' w0.heap.size g n cap (dg v))∧Below w0.heap.size w0 w'
theorem nat_addTo(w0 w:World)(g n cap p:Nat)(b:OA_)(m cap' q:Nat)(ho:Own w w0.heap.size g n cap (dg p))(hB:Below w0.heap.size w0 w)(hb:Wd w0 b m cap' (dg q))(hn:n≤2097152000000)(hm:m≤2097152000000) :
 Calls Tryz.prog 156 #[.slice (some ⟨g,0,none⟩) n cap,.slice b m cap'] w (OwnPost w0 (p+q)):=by
 obtain⟨i0,hi,hz0,hz1,hz2⟩:=info_parts g7_
 obtain⟨hb1,hb2⟩:=hb.bound
 have Ho:=hd_ ho
 have Hb:=hd_ hb
 clear ho hb
 go_enter Tryz.func156,Tryz.ntmps156
 go_wp2
 go_loopw [0] (fun s wr=>∃g' n' cap' j:Nat,s=.slice (some ⟨g',0,none⟩) n' cap'∧n'≤2097152000000∧Hid (n'=n+j∧(j=0∨n'≤m))∧Hid (Own wr w0.heap.size g' n' cap' (dg p ++ List.replicate j 0))∧Below w0.heap.size w0 wr) (fun s _=>m - ku_ s)
 case atStart=>exact⟨g,n,cap,0,rfl,by omega,hd_ ⟨rfl,.inl rfl⟩,hd_ (by simpa using Ho.out),hB⟩
 case round=>
  obtain⟨g',n',cap2,j,rfl,hn2,Hnj,Ho',hB'⟩:=hrel
  by_cases hlt:n' < m
  ·have hbase:w0.heap.size≤wr.heap.size:=hB'.size
   go_wp2_with (at_builtin;refine wpList_append_own _ rfl _ _ 25 rfl w0.heap.size 81 i0 (.int .u32 0) 1 4 Tryz.underlying25 hi hz0 hz1 hz2 rfl (by decide) _ n' _ rfl (Ho'.out.1.alloc _) ⟨wr.heap.size,0,none⟩ 1 1 (b7_ [0]) rfl rfl (Wd.lit1 wr 81 (x:=0) (by omega)).cells (dz_ _) (by unfold maxLen;omega) (by omega) (by simp;omega) ?_)
   intro v' w1 hown hgrow _
   obtain⟨g2,cap3,rfl,HO⟩:=Own.push (r:=0) hown Ho'.out.2 (by decide)
   have HO':=hd_ HO
   have hb:=Ho'.out.base
   have hB1:Below w0.heap.size w0 w1:=(hB'.alloc hbase _).grown hgrow (by simp;omega) (by intro k hk;simp[Value.ownBlock] at hk;omega)
   clear HO hown hgrow
   go_wp2
   go_roundw
   case rel=>exact⟨g2,n'+1,cap3,j+1,rfl,by omega,hd_ ⟨by have:=Hnj.out;omega,.inr (by omega)⟩,hd_ (by have:=HO'.out;rwa [List.append_assoc,←List.replicate_succ'] at this),hB1⟩
   case measure=>simp[ku_];omega
  ·have hge:Hid (n'=0∨4294967296 ^ (n' - 1)≤p+q):=hd_ (by
    have hm':=Hb.out.len
    obtain⟨hn',hj⟩:=Hnj.out
    have hnl:=Ho.out.len
    by_cases h0:n'=0
    ·exact .inl h0
    ·refine .inr ?_
     rcases hj with hj | hj
     ·have h1:=dg_ge (n:=p) (by omega)
      rw[show (dg p).length=n' by omega] at h1
      omega
     ·have h1:=dg_ge (n:=q) (by omega)
      rw[show (dg q).length=n' by omega] at h1
      omega)
   have hx:Hid (okw (dg p ++ List.replicate j 0)∧(dg p ++ List.replicate j 0).length=n'∧val (dg p ++ List.replicate j 0)=p):=hd_ ⟨Ho'.out.2,Ho'.out.len,by rw[kt_,a1_]⟩
   have hqm:Hid (okw (dg q)∧(dg q).length=m∧val (dg q)=q):=hd_ ⟨cv_ _,Hb.out.len,a1_ _⟩
   have hmn:m≤n':=by omega
   generalize dg p ++ List.replicate j 0=x at Ho' hx
   have hd:decide (n' < m)=false:=decide_eq_false hlt
   clear Hnj Ho hB hlt
   go_wp2
   go_loopw [5,19] (fun cv iv w2=>∃(k c:Nat) (o:List Nat),k≤m∧iv=.int .i64 k∧cv=.int .u32 (c:Int)∧c≤1∧Hid (o.length=k)∧Hid (val o+4294967296 ^ k * c=low x k+low (dg q) k)∧Hid (Own w2 w0.heap.size g' n' cap2 (o ++ x.drop k))∧Below w0.heap.size w0 w2) (fun _ iv _=>m - (intOf iv).toNat)
   case atStart=>exact⟨0,0,[],by omega,rfl,rfl,by omega,hd_ rfl,hd_ (by rw[cc_,cc_];rfl),hd_ (by simpa using Ho'.out),hB'⟩
   case round=>
    clear Ho' hB'
    obtain⟨k,c,o,hk,rfl,rfl,hc,Hol,Hv,HO,hB2⟩:=hrel
    by_cases hlt:k < m
    ·obtain⟨bb,ob,rfl,hcb⟩:=(Hb.out.later hB2).at (by omega)
     have hcbk:=hcb k hlt
     have hcell:=HO.out.cell (k:=k) (by omega)
     rw[k9_ _ _ _ Hol.out] at hcell
     have hfro:=HO.out.1.frozenAt k
     have hyl:=bk_ hqm.out.1 k
     have hxl:=bk_ hx.out.1 k
     obtain⟨xk,hxk⟩:∃xk,xk=atw x k:=⟨_,rfl⟩
     obtain⟨yk,hyk⟩:∃yk,yk=atw (dg q) k:=⟨_,rfl⟩
     rw[←hxk] at hxl hcell
     rw[←hyk] at hyl hcbk
     have Hxk:=hd_ hxk
     have Hyk:=hd_ hyk
     have hk1:(k:Int) < (n':Int):=by omega
     have hb:=HO.out.base
     clear hxk hyk hcb
     go_wp2_with (go_at_call 168;(with_reducible refine (ha_ xk yk c _ (by omega) (by omega) (by omega)).mono ?_);rintro e w' ⟨r,z,rfl,hz,hr,Hs,rfl⟩)
     go_roundw
     case rel=>exact⟨k+1,z,o ++ [r],by omega,by go_num,rfl,hz,hd_ (by have:=Hol.out;simp;omega),hd_ (ud_ Hol.out Hv.out hr (by rw[Hs.out,Hxk.out,Hyk.out])),hd_ (by have h:=HO.out.set k r hr;rwa [kw_ o x k r Hol.out (by rw[hx.out.2.1];omega)] at h),hB2.setCell hb.1 _⟩
     case measure=>simp[intOf];omega
    ·obtain rfl:k=m:=by omega
     go_wp2
     go_loopw [5,8] (fun cv iv w3=>∃(t c:Nat) (o:List Nat),k≤t∧t≤n'∧iv=.int .i64 t∧cv=.int .u32 (c:Int)∧c≤1∧Hid (o.length=t)∧Hid (val o+4294967296 ^ t * c=low x t+low (dg q) t)∧Hid (Own w3 w0.heap.size g' n' cap2 (o ++ x.drop t))∧Below w0.heap.size w0 w3) (fun _ iv _=>n' - (intOf iv).toNat)
     case atStart=>exact⟨k,c,o,by omega,by omega,rfl,rfl,hc,Hol,Hv,HO,hB2⟩
     case round=>
      clear HO hB2 Hv Hol hc
      obtain⟨t,c,o,hkt,htn,rfl,rfl,hc,Hol,Hv,HO,hB2⟩:=hrel
      by_cases hc0:c=0
      ·subst hc0
       have Hfin:=hd_ (vs_ (x:=o ++ x.drop t) (p:=p) (q:=q) HO.out.2 (by rw[add_stop Hol.out (by rw[hqm.out.2.1];exact hkt) (by simpa using Hv.out),hx.out.2.2,hqm.out.2.2]) (by rw[HO.out.len];exact hge.out))
       by_cases hlt:t < n'
       ·go_wp2
        go_ret
        exact⟨g',n',cap2,rfl,hd_ (by rw[←Hfin.out];exact HO.out),hB2⟩
       ·go_wp2
        go_ret
        exact⟨g',n',cap2,rfl,hd_ (by rw[←Hfin.out];exact HO.out),hB2⟩
      ·have Hc1:Hid (c=1):=hd_ (by omega)
       have hcp:0 < c:=by omega
       have hcpi:(0:Int) < (c:Int):=by omega
       clear hc0
       by_cases hlt:t < n'
       ·have hcell:=HO.out.cell (k:=t) (by omega)
        rw[k9_ _ _ _ Hol.out] at hcell
        have hfro:=HO.out.1.frozenAt t
        have hxl:=bk_ hx.out.1 t
        obtain⟨xk,hxk⟩:∃xk,xk=atw x t:=⟨_,rfl⟩
        rw[←hxk] at hxl hcell
        have Hxk:=hd_ hxk
        have hyk:Hid (atw (dg q) t=0):=hd_ (h8_ (by rw[hqm.out.2.1];exact hkt))
        have hk1:(t:Int) < (n':Int):=by omega
        have hb:=HO.out.base
        clear hxk
        go_wp2_with (go_at_call 168;(with_reducible refine (i4_ xk c _ (by omega) (by omega)).mono ?_);rintro e w' ⟨r,z,rfl,hz,hr,Hs,rfl⟩)
        go_roundw
        case rel=>exact⟨t+1,z,o ++ [r],by omega,by omega,by go_num,rfl,hz,hd_ (by have:=Hol.out;simp;omega),hd_ (ud_ Hol.out Hv.out hr (by rw[Hs.out,Hxk.out,hyk.out])),hd_ (by have h:=HO.out.set t r hr;rwa [kw_ o x t r Hol.out (by rw[hx.out.2.1];omega)] at h),hB2.setCell hb.1 _⟩
        case measure=>simp[intOf];omega
       ·obtain rfl:t=n':=by omega
        have hdrop:x.drop t=[]:=List.drop_eq_nil_of_le (by rw[hx.out.2.1];omega)
        rw[hdrop,List.append_nil] at HO
        have Hfin:=hd_ (uq_ (p:=p) (q:=q) HO.out.2 Hol.out (by have hv:=Hv.out;rw[Hc1.out] at hv;rw[hv,eg_ (by rw[hx.out.2.1];omega),eg_ (by rw[hqm.out.2.1];exact hkt),hx.out.2.2,hqm.out.2.2]))
        have hbase:w0.heap.size≤wr.heap.size:=hB2.size
        clear hdrop
        go_wp2_with (at_builtin;refine wpList_append_own _ rfl _ _ 25 rfl w0.heap.size 81 i0 (.int .u32 0) 1 4 Tryz.underlying25 hi hz0 hz1 hz2 rfl (by decide) _ t _ rfl (HO.out.1.alloc _) ⟨_,0,none⟩ 1 1 (b7_ [c]) rfl rfl (Wd.lit1 _ 81 (x:=c) (by omega)).cells (dz_ _) (by unfold maxLen;omega) (by omega) (by simp;omega) ?_)
        intro v' w1 hown hgrow _
        obtain⟨g2,cap3,rfl,HO2⟩:=Own.push (r:=c) hown HO.out.2 (by omega)
        have HO':=hd_ HO2
        have hb:=HO.out.base
        have hB1:Below w0.heap.size w0 w1:=(hB2.alloc hbase _).grown hgrow (by simp;omega) (by intro k hk;simp[Value.ownBlock] at hk;omega)
        clear HO2 hown hgrow
        go_wp2
        go_ret
        exact⟨g2,t+1,cap3,rfl,hd_ (by have h:=HO'.out;rw[Hc1.out] at h;rwa [Hfin.out] at h),hB1⟩
theorem nat_add(a:OA_)(n cap:Nat)(ls:List (List Nat))(w:World)(h:Wds w a n cap ls)(hn:n≤1000000)(hw:ed_ ls≤1048576000000) :
 Calls Tryz.prog 130 #[.slice a n cap] w (Lst (dg (vals ls)) w):=by
 obtain⟨i0,hi,hz0,hz1,hz2⟩:=info_parts g7_
 obtain⟨hb1,hb2⟩:=h.bound
 have H:=hd_ h
 clear h
 go_enter Tryz.func130,Tryz.ntmps130
 go_wp2_with fail
 refine (rq_ _ _ _ _ _ H.out hw).mono ?_
 rintro e w' ⟨N,rfl,hN,rfl⟩
 go_wp2_with (at_make;refine wpList_make_own _ rfl _ _ 25 rfl w.heap.size 81 i0 (.int .u32 0) 1 Tryz.underlying25 hi hz0 hz1 .i64 .i64 _ (N+1) rfl rfl (by omega) (by rw[hz2];omega) (by unfold maxLen;omega) (Nat.le_refl _) ?_;intro w1 hown1 hgrow1)
 have HO1:Hid (Own w1 w.heap.size w.heap.size 0 (N+1) []):=hd_ ⟨hown1,f3_⟩
 have hB1:Below w.heap.size w w1:=(Below.refl _ _).grown hgrow1 (Nat.le_refl _) (fun k hk=>by cases hk)
 clear hown1 hgrow1
 go_loopw [3,12] (fun s i wr=>∃k g m cap2:Nat,k≤n∧i=.int .i64 k∧s=.slice (some ⟨g,0,none⟩) m cap2∧m≤1048576000001∧Hid (Own wr w.heap.size g m cap2 (dg (vals (ls.take k))))∧Below w.heap.size w wr) (fun _ i _=>n - (intOf i).toNat)
 case atStart=>exact⟨0,_,0,_,by omega,rfl,rfl,by omega,hd_ (by simpa [vals,cm_] using HO1.out),hB1⟩
 case round=>
  clear HO1 hB1
  obtain⟨k,g,m,cap2,hk,rfl,rfl,hm,HO,hB⟩:=hrel
  by_cases hlt:k < n
  ·obtain⟨b,off,rfl,a',n',c',hc0,hwd⟩:=H.out.at hlt
   have hc:=cell_later hB hc0
   have hn':n'≤ed_ ls:=by rw[←hwd.len];exact pv_ _ _ (by rw[H.out.len];exact hlt)
   have HW:=hd_ hwd
   have HW2:=hwd.l_ hB
   clear hwd hc0
   have hk1:(k:Int) < (n:Int):=by omega
   go_wp2_with fail
   refine (ej_ _ _ _ _ _ HW2.out).mono ?_
   rintro e w' ⟨m2,rfl,Hm,hmn,HT,rfl⟩
   have HT0:Hid (Wd w a' m2 c' (dg (val (ls.getD k [])))):=hd_ (by rw[Hm.out];exact HW.out.trim)
   go_wp2_with fail
   refine (nat_addTo w _ g m cap2 _ _ _ _ _ HO.out hB HT0.out (by omega) (by omega)).mono ?_
   rintro e w2 ⟨g2,m3,cap3,rfl,HO2,hB2⟩
   have hv:=vals_take ls k (by rw[H.out.len];exact hlt)
   rw[←hv] at HO2
   have hm3:m3≤1048576000001:=by
    have h1:=HO2.out.len
    have h2:=ro_ (ls:=ls.take (k+1)) (fun l hl=>H.out.oks l (List.mem_of_mem_take hl)) (by rw[List.length_take];have:=H.out.len;omega)
    have h3:=oa_ ls (k+1)
    omega
   clear HO HT HT0 HW HW2 hB hv Hm hmn
   go_wp2
   go_roundw
   case rel=>exact⟨k+1,g2,m3,cap3,by omega,by go_num,rfl,hm3,HO2,hB2⟩
   case measure=>simp[intOf];omega
  ·have hkn:k=n:=by omega
   have hfin:dg (vals (ls.take k))=dg (vals ls):=by rw[List.take_of_length_le (by rw[H.out.len];omega)]
   rw[hfin] at HO
   clear hkn hfin
   go_wp2
   go_ret
   exact⟨_,m,cap2,rfl,HO.out.wd,hB⟩
theorem td_(a:OA_)(n cap:Nat)(la:List Nat)(b:OA_)(m cap':Nat)(lb:List Nat)(w:World)(ha:Wd w a n cap la)(hb:Wd w b m cap' lb)(hn:n≤17592183947264)(hle:Hid (val lb≤val la)) :
 Calls Tryz.prog 157 #[.slice a n cap,.slice b m cap'] w (Lst (dg (val la - val lb)) w):=by
 obtain⟨hb1,hb2⟩:=ha.bound
 obtain⟨hb3,hb4⟩:=hb.bound
 have Ha:=hd_ ha
 have Hb:=hd_ hb
 clear ha hb
 go_enter Tryz.func157,Tryz.ntmps157
 go_wp2_with fail
 refine (ej_ _ _ _ _ _ Ha.out).mono ?_
 rintro e w' ⟨p,rfl,Hp,hp,HA,rfl⟩
 go_wp2_with fail
 refine (ej_ _ _ _ _ _ Hb.out).mono ?_
 rintro e w' ⟨q,rfl,Hq,hq,HB,rfl⟩
 have hqp:q≤p:=by rw[Hp.out,Hq.out];exact aw_ hle.out
 go_wp2_with fail
 refine (k7_ _ _ _ _ _ HA.out (by omega)).mono ?_
 rintro e w1 ⟨g,r,rfl,Hr,Hown,hB1⟩
 rw[a1_] at Hr Hown
 have HO:Hid (Own w1 w.heap.size g r r (dg (val la))):=hd_ ⟨Hown.out,cv_ _⟩
 have hrp:r=p:=by rw[Hr.out,Hp.out]
 clear Hown Hr
 subst hrp
 have hx:Hid (okw (dg (val la))∧(dg (val la)).length=r∧val (dg (val la))=val la):=hd_ ⟨cv_ _,Hp.out.symm,a1_ _⟩
 have hy:Hid (okw (dg (val lb))∧(dg (val lb)).length=q∧val (dg (val lb))=val lb):=hd_ ⟨cv_ _,Hq.out.symm,a1_ _⟩
 clear Ha HA Hb Hp Hq
 generalize dg (val la)=x at *
 generalize dg (val lb)=y at *
 go_wp2
 go_loopw [6,18] (fun cv iv w2=>∃(k c:Nat) (o:List Nat),k≤q∧iv=.int .i64 k∧cv=.int .u32 (c:Int)∧c≤1∧Hid (o.length=k)∧Hid (low x k+4294967296 ^ k * c=low y k+val o)∧Hid (Own w2 w.heap.size g r r (o ++ x.drop k))∧Below w.heap.size w w2) (fun _ iv _=>q - (intOf iv).toNat)
 case atStart=>exact⟨0,0,[],by omega,rfl,rfl,by omega,hd_ rfl,hd_ (by rw[cc_,cc_];rfl),hd_ (by simpa using HO.out),hB1⟩
 case round=>
  clear HO hB1
  obtain⟨k,c,o,hk,rfl,rfl,hc,Hol,Hv,HO,hB2⟩:=hrel
  by_cases hlt:k < q
  ·obtain⟨bb,ob,rfl,hcb⟩:=(HB.out.later hB2).at (by omega)
   have hcbk:=hcb k hlt
   have hcell:=HO.out.cell (k:=k) (by omega)
   rw[k9_ _ _ _ Hol.out] at hcell
   have hfro:=HO.out.1.frozenAt k
   have hyl:=bk_ hy.out.1 k
   have hxl:=bk_ hx.out.1 k
   obtain⟨xk,hxk⟩:∃xk,xk=atw x k:=⟨_,rfl⟩
   obtain⟨yk,hyk⟩:∃yk,yk=atw y k:=⟨_,rfl⟩
   rw[←hxk] at hxl hcell
   rw[←hyk] at hyl hcbk
   have Hxk:=hd_ hxk
   have Hyk:=hd_ hyk
   have hk1:(k:Int) < (r:Int):=by omega
   have hb:=HO.out.base
   clear hxk hyk hcb
   go_wp2_with (go_at_call 169;(with_reducible refine (gb_ xk yk c _ (by omega) (by omega) (by omega)).mono ?_);rintro e w' ⟨s,z,rfl,hz,hs,Hs,rfl⟩)
   go_roundw
   case rel=>exact⟨k+1,z,o ++ [s],by omega,by go_num,rfl,hz,hd_ (by have:=Hol.out;simp;omega),hd_ (h6_ Hol.out Hv.out (by rw[←Hxk.out,←Hyk.out];exact Hs.out)),hd_ (by have h:=HO.out.set k s hs;rwa [kw_ o x k s Hol.out (by rw[hx.out.2.1];omega)] at h),hB2.setCell hb.1 _⟩
   case measure=>simp[intOf];omega
  ·obtain rfl:k=q:=by omega
   go_wp2
   go_loopw [6,9] (fun cv iv w3=>∃(t c:Nat) (o:List Nat),k≤t∧t≤r∧iv=.int .i64 t∧cv=.int .u32 (c:Int)∧c≤1∧Hid (o.length=t)∧Hid (low x t+4294967296 ^ t * c=low y t+val o)∧Hid (Own w3 w.heap.size g r r (o ++ x.drop t))∧Below w.heap.size w w3) (fun _ iv _=>r - (intOf iv).toNat)
   case atStart=>exact⟨k,c,o,by omega,by omega,rfl,rfl,hc,Hol,Hv,HO,hB2⟩
   case round=>
    clear HO hB2 Hv Hol hc
    obtain⟨t,c,o,hkt,htn,rfl,rfl,hc,Hol,Hv,HO,hB2⟩:=hrel
    by_cases hc0:c=0
    ·subst hc0
     have hfin:val (o ++ x.drop t)=val la - val lb:=by
      have:=sub_stop (la:=x) (lb:=y) Hol.out (by rw[hy.out.2.1];exact hkt) (by simpa using Hv.out)
      rw[hx.out.2.2,hy.out.2.2] at this
      omega
     have Hfin:=hd_ hfin
     clear hfin
     by_cases hlt:t < r
     ·go_wp2_with fail
      refine (ej_ _ _ _ _ _ HO.out.wd).mono ?_
      rintro e w' ⟨s,rfl,Hs,hs,HT,rfl⟩
      rw[Hfin.out] at HT
      go_wp2
      go_ret
      exact⟨_,s,_,rfl,HT.out,hB2⟩
     ·go_wp2_with fail
      refine (ej_ _ _ _ _ _ HO.out.wd).mono ?_
      rintro e w' ⟨s,rfl,Hs,hs,HT,rfl⟩
      rw[Hfin.out] at HT
      go_wp2
      go_ret
      exact⟨_,s,_,rfl,HT.out,hB2⟩
    ·have Hc1:Hid (c=1):=hd_ (by omega)
     have hcp:0 < c:=by omega
     have hcpi:(0:Int) < (c:Int):=by omega
     clear hc0
     by_cases hlt:t < r
     ·have hcell:=HO.out.cell (k:=t) (by omega)
      rw[k9_ _ _ _ Hol.out] at hcell
      have hfro:=HO.out.1.frozenAt t
      have hxl:=bk_ hx.out.1 t
      obtain⟨xk,hxk⟩:∃xk,xk=atw x t:=⟨_,rfl⟩
      rw[←hxk] at hxl hcell
      have Hxk:=hd_ hxk
      have Hyk:Hid (atw y t=0):=hd_ (h8_ (by rw[hy.out.2.1];exact hkt))
      have hk1:(t:Int) < (r:Int):=by omega
      have hb:=HO.out.base
      clear hxk
      go_wp2_with (go_at_call 169;(with_reducible refine (or_ xk c _ (by omega) (by omega)).mono ?_);rintro e w' ⟨s,z,rfl,hz,hs,Hs,rfl⟩)
      go_roundw
      case rel=>exact⟨t+1,z,o ++ [s],by omega,by omega,by go_num,rfl,hz,hd_ (by have:=Hol.out;simp;omega),hd_ (h6_ Hol.out Hv.out (by rw[←Hxk.out,Hyk.out];exact Hs.out)),hd_ (by have h:=HO.out.set t s hs;rwa [kw_ o x t s Hol.out (by rw[hx.out.2.1];omega)] at h),hB2.setCell hb.1 _⟩
      case measure=>simp[intOf];omega
     ·exfalso
      obtain rfl:t=r:=by omega
      have h1:=Hv.out
      have h2:=d7_ (okw_append.1 HO.out.2).1
      have h3:=hle.out
      rw[Hc1.out,eg_ (by rw[hx.out.2.1];omega),eg_ (by rw[hy.out.2.1];exact hkt),hx.out.2.2,hy.out.2.2] at h1
      rw[Hol.out] at h2
      omega
theorem nat_gap(a:OA_)(n cap:Nat)(la:List Nat)(b:OA_)(m cap':Nat)(lb:List Nat)(w:World)(ha:Wd w a n cap la)(hb:Wd w b m cap' lb)(hn:n≤17592183947264)(hm:m≤17592183947264) :
 Calls Tryz.prog 131 #[.slice a n cap,.slice b m cap'] w (Lst2 (dg (val la - val lb+(val lb - val la))) (.int .i64 (cmpI (val la) (val lb))) w):=by
 have Ha:=hd_ ha
 have Hb:=hd_ hb
 clear ha hb
 go_enter Tryz.func131,Tryz.ntmps131
 go_wp2_with fail
 refine (nat_cmp _ _ _ _ _ _ _ _ _ Ha.out Hb.out).mono ?_
 rintro e w1 ⟨rfl,hB1⟩
 have Ha1:=Ha.l_ hB1
 have Hb1:=Hb.l_ hB1
 by_cases hlt:val la < val lb
 ·have hc:cmpI (val la) (val lb) < 0:=by rw[f2_ hlt];omega
  have hv:val la - val lb+(val lb - val la)=val lb - val la:=by omega
  have Hv:=hd_ hv
  have hle:Hid (val la≤val lb):=hd_ (by omega)
  clear hlt hv
  generalize cmpI (val la) (val lb)=c at *
  go_wp2_with fail
  refine (td_ _ _ _ _ _ _ _ _ _ Hb1.out Ha1.out hm hle).mono ?_
  rintro e w2 ⟨a2,n2,c2,rfl,h2,hB2⟩
  have H2:=hd_ h2
  clear h2
  go_wp2
  go_ret2
  exact⟨_,_,_,rfl,by rw[Hv.out];exact H2.out,ab_ hB1 hB2⟩
 ·have hc:¬cmpI (val la) (val lb) < 0:=by unfold cmpI;split <;> (try split) <;> omega
  have hv:val la - val lb+(val lb - val la)=val la - val lb:=by omega
  have Hv:=hd_ hv
  have hle:Hid (val lb≤val la):=hd_ (by omega)
  clear hlt hv
  generalize cmpI (val la) (val lb)=c at *
  go_wp2_with fail
  refine (td_ _ _ _ _ _ _ _ _ _ Ha1.out Hb1.out hn hle).mono ?_
  rintro e w2 ⟨a2,n2,c2,rfl,h2,hB2⟩
  have H2:=hd_ h2
  clear h2
  go_wp2
  go_ret2
  exact⟨_,_,_,rfl,by rw[Hv.out];exact H2.out,ab_ hB1 hB2⟩
theorem natSaid:NatSaid where
 norm:=fun a n cap l w h hn=>(k7_ a n cap l w h hn).mono fun _ _ ⟨_,_,he,_,HO,hB⟩=>⟨_,_,_,he,Wd.own HO.out (cv_ _),hB⟩
 of:=nat_of
 small:=fun a n cap l w h _=>nat_small a n cap l w h
 zero:=fun a n cap l w h _=>nat_zero a n cap l w h
 cmp:=fun a n cap la b m cap' lb w ha hb _ _=>nat_cmp a n cap la b m cap' lb w ha hb
 add:=nat_add
 gap:=nat_gap
theorem iu_(x y c d:Nat)(w:World)(hx:x < 4294967296)(hy:y < 4294967296)(hc:c < 4294967296)(hd:d < 4294967296):Calls Tryz.prog 134 #[.int .u32 (x:Int),.int .u32 (y:Int),.int .u32 (c:Int),.int .u32 (d:Int)] w fun e w'=>
 ∃z r:Nat,e=.returned (.tuple #[.int .u32 (z:Int),.int .u32 (r:Int)])∧z < 4294967296∧r < 4294967296∧Hid (r+4294967296 * z=x * y+(c+d))∧w=w':=
 (uc_ x y c d w (by omega) (by omega) (by omega) (by omega) (by omega) (by omega) (by omega) (by omega)).mono fun e w' ⟨he,hw⟩=>by
   have h1:x * y≤4294967295 * 4294967295:=Nat.mul_le_mul (by omega) (by omega)
   have e0:(x:Int) * (y:Int)=((x * y:Nat):Int):=by simp
   rw[e0] at he
   generalize x * y=p at *
   exact⟨(p+(c+d)) / 4294967296,(p+(c+d)) % 4294967296,by rw[he,show ((p:Int)+c+d) / 4294967296=(((p+(c+d)) / 4294967296:Nat):Int) by omega,show ((p:Int)+c+d) % 4294967296=(((p+(c+d)) % 4294967296:Nat):Int) by omega],by omega,by omega,hd_ (by omega),hw⟩
theorem pe_(x y c:Nat)(w:World)(hx:x < 4294967296)(hy:y < 4294967296)(hc:c < 4294967296):Calls Tryz.prog 134 #[.int .u32 (x:Int),.int .u32 (y:Int),.int .u32 (c:Int),.int .u32 0] w fun e w'=>
 ∃z r:Nat,e=.returned (.tuple #[.int .u32 (z:Int),.int .u32 (r:Int)])∧z < 4294967296∧r < 4294967296∧Hid (r+4294967296 * z=x * y+c)∧w=w':=
 iu_ x y c 0 w hx hy hc (by omega)
theorem pq_(a:OA_)(na cap:Nat)(la:List Nat)(b:OA_)(nb cap':Nat)(lb:List Nat)(w0:World)(ha:Wd w0 a na cap la)(hb:Wd w0 b nb cap' lb)(hna:na≤4194304000000)(hnb:nb≤4194304000000) :
 Calls Tryz.prog 90 #[.slice a na cap,.slice b nb cap'] w0 (Lst (dg (val la * val lb)) w0):=by
 obtain⟨i0,hi,hz0,hz1,hz2⟩:=info_parts g7_
 have Hb0:=hd_ hb
 have Hla:Hid ((dg (val la)).length≤na):=hd_ (by rw[←ha.len];exact dc_ ha.ok)
 have Hlb:Hid ((dg (val lb)).length≤nb):=hd_ (by rw[←hb.len];exact dc_ hb.ok)
 go_enter Tryz.func90,Tryz.ntmps90
 go_wp2_with fail
 refine (natSaid.norm _ _ _ _ _ ha (by omega)).mono ?_
 rintro e w1 ⟨a,n,c1,rfl,h1,b1⟩
 have H1:=hd_ h1
 clear ha hb h1
 go_wp2_with fail
 refine (natSaid.norm _ _ _ _ _ (Hb0.out.later b1) (by omega)).mono ?_
 rintro e w ⟨b,m,c2,rfl,h2,b2⟩
 have Ha:=H1.l_ b2
 have Hb:=hd_ h2
 have hn:n≤4194304000000:=by have h1:=H1.out.len;have h2:=Hla.out;omega
 have hm:m≤4194304000000:=by have h1:=Hb.out.len;have h2:=Hlb.out;omega
 have HB0:=hd_ (ab_ b1 b2)
 have Hv:Hid (val (dg (val la)) * val (dg (val lb))=val la * val lb):=hd_ (by rw[a1_,a1_])
 clear H1 Hb0 h2 b1 b2 Hla Hlb hna hnb
 generalize dg (val la)=A at *
 generalize dg (val lb)=B at *
 obtain⟨N,hN⟩:∃N:Nat,(n:Int)+(m:Int)=(N:Int):=⟨n+m,by omega⟩
 have HN:Hid (N=n+m):=hd_ (by omega)
 have hNb:N≤8388608000000:=by omega
 go_wp2_with (at_make;refine b6_ _ rfl _ _ 25 rfl w.heap.size 81 i0 (.int .u32 0) Tryz.underlying25 hi hz0 hz1 rfl .i64 .i64 _ _ N N rfl rfl rfl rfl (Nat.le_refl _) (by rw[hz2];omega) (by unfold maxLen;omega) (Nat.le_refl _) ?_;intro w1 hown1 hgrow1)
 rw[dt_] at hown1
 have HO1:Hid (Own w1 w.heap.size w.heap.size N N (List.replicate N 0)):=hd_ ⟨hown1,fg_ N⟩
 have hB1:Below w.heap.size w w1:=(Below.refl _ _).grown hgrow1 (Nat.le_refl _) (fun k hk=>by cases hk)
 clear hown1 hgrow1
 go_loopw [23] (fun iv wr=>∃(i:Nat) (P:List Nat),i≤n∧iv=.int .i64 (i:Int)∧Hid (vv_ A B P m i)∧Hid (Own wr w.heap.size w.heap.size N N P)∧Below w.heap.size w wr) (fun iv _=>n - (intOf iv).toNat)
 case atStart=>exact⟨0,List.replicate N 0,by omega,rfl,hd_ (qh_ _ _ _ _),HO1,hB1⟩
 case round=>
  clear HO1 hB1
  obtain⟨i,P,hin,rfl,HR,HO,hB⟩:=hrel
  by_cases hlt:i < n
  ·have hii:(i:Int) < (n:Int):=by omega
   obtain⟨ba,oa,rfl,hca⟩:=(Ha.out.later hB).at (by omega)
   have hcai:=hca i hlt
   have hxw:=bk_ Ha.out.ok i
   obtain⟨x,hxx⟩:∃x,x=atw A i:=⟨_,rfl⟩
   rw[←hxx] at hxw hcai
   have Hx:=hd_ hxx
   clear hca hxx
   go_wp2
   go_loopw [8,30] (fun sv jv wr=>∃(j c:Nat) (P:List Nat),j≤m∧jv=.int .i64 (j:Int)∧sv=.int .u32 (c:Int)∧c < 4294967296∧Hid (nx_ A B P m i j c)∧Hid (Own wr w.heap.size w.heap.size N N P)∧Below w.heap.size w wr) (fun _ jv _=>m - (intOf jv).toNat)
   case atStart=>exact⟨0,0,P,by omega,rfl,rfl,by omega,hd_ (n0_ HR.out),HO,hB⟩
   case round=>
    clear HO hB HR hcai
    obtain⟨j,c,P,hjm,rfl,rfl,hc,HC,HO,hB⟩:=hrel
    by_cases hjl:j < m
    ·have hji:(j:Int) < (m:Int):=by omega
     obtain⟨bb,ob,rfl,hcb⟩:=(Hb.out.later hB).at (by omega)
     have hcbj:=hcb j hjl
     have hyw:=bk_ Hb.out.ok j
     obtain⟨y,hyy⟩:∃y,y=atw B j:=⟨_,rfl⟩
     rw[←hyy] at hyw hcbj
     have Hy:=hd_ hyy
     obtain⟨q,hq⟩:∃q:Nat,(i:Int)+(j:Int)=(q:Int):=⟨i+j,by omega⟩
     have Hq:Hid (q=i+j):=hd_ (by omega)
     have hqN:q < N:=by have:=HN.out;omega
     have hqi:(q:Int) < (N:Int):=by omega
     have hcell:=HO.out.cell (k:=q) hqN
     have hfro:=HO.out.1.frozenAt q
     have huw:=bk_ HO.out.2 q
     obtain⟨u,huu⟩:∃u,u=atw P q:=⟨_,rfl⟩
     rw[←huu] at huw hcell
     have Hu:=hd_ huu
     have hb:=HO.out.base
     clear hcb hyy huu
     go_wp2_with fail
     refine (iu_ x y u c _ hxw hyw huw hc).mono ?_
     rintro e w' ⟨z,r,rfl,hz,hr,Hs,rfl⟩
     have HOs:=hd_ (HO.out.set q r hr)
     have HBs:=hd_ (hB.setCell (p:=⟨w.heap.size,q,none⟩) hb.1 (.int .u32 (r:Int)))
     go_wp2
     go_roundw
     case rel=>
      exact⟨j+1,z,P.set q r,by omega,by go_num,rfl,hz,hd_ (by
       have h1:=HC.out
       have h2:=HN.out
       have h3:=HO.out.len
       obtain rfl:=Hq.out
       exact qq_ h1 hjl (by omega) (by rw[←Hx.out,←Hy.out,←Hu.out];exact Hs.out)),HOs,HBs.out⟩
     case measure=>simp[intOf];omega
    ·obtain rfl:j=m:=by omega
     obtain⟨q,hq⟩:∃q:Nat,(i:Int)+(j:Int)=(q:Int):=⟨i+j,by omega⟩
     have Hq:Hid (q=i+j):=hd_ (by omega)
     have hqN:q < N:=by have:=HN.out;omega
     have hqi:(q:Int) < (N:Int):=by omega
     have hcell:=HO.out.cell (k:=q) hqN
     have hfro:=HO.out.1.frozenAt q
     generalize atw P q=u at hcell
     have hb:=HO.out.base
     have HOs:=hd_ (HO.out.set q c hc)
     have HBs:=hd_ (hB.setCell (p:=⟨w.heap.size,q,none⟩) hb.1 (.int .u32 (c:Int)))
     go_wp2
     go_roundw
     case rel=>
      exact⟨i+1,P.set q c,by omega,by go_num,hd_ (by
       have h1:=HC.out
       have h2:=HN.out
       have h3:=HO.out.len
       obtain rfl:=Hq.out
       exact te_ h1 Hb.out.len (by omega)),HOs,HBs.out⟩
     case measure=>simp[intOf];omega
  ·obtain rfl:i=n:=by omega
   have Hw:Hid (val P=val la * val lb):=hd_ (by rw[←Hv.out];exact row_end HR.out Ha.out.len)
   go_wp2_with fail
   refine (natSaid.norm _ _ _ _ _ HO.out.wd (by omega)).mono ?_
   rintro e w' ⟨a',n',c',rfl,hwd,hbel⟩
   rw[Hw.out] at hwd
   have HWD:=hd_ hwd
   clear hwd
   go_wp2
   go_ret
   exact⟨_,_,_,rfl,HWD.out,ab_ HB0.out (ab_ hB hbel)⟩
end Go.Proofs.YtocebjbjnfammaaGreat
