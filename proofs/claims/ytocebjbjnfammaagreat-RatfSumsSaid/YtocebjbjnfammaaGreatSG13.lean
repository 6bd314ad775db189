import Derived.Test.YtocebjbjnfammaaGreatSG12
import Derived.Test.YtocebjbjnfammaaGreatSG5
import Derived.Test.YtocebjbjnfammaaGreatSG8
import Derived.Test.YtocebjbjnfammaaGreatSG11
import Derived.Deep.RegionHeld3
import Derived.Test.YtocebjbjnfammaaGreatSG3
import Derived.Test.YtocebjbjnfammaaGreatSG6
import Derived.Test.YtocebjbjnfammaaGreatSG7
import Derived.Test.YtocebjbjnfammaaGreatSG1
set_option maxRecDepth 4096
set_option maxHeartbeats 16000000
namespace Go.Proofs.YtocebjbjnfammaaGreat
open Go.RowKit
theorem rz_(a:OA_)(n c:Nat)(qs:LR_)(w:World)(h:Rw w a n c qs)(hn:n≤1000) :
 Calls Tryz.prog 115 #[.slice a n c] w (fun e w'=>∃(a':OA_) (c':Nat),e=.returned (.slice a' n c')∧Rw w' a' n c' qs∧Below w.heap.size w w'):=by
 obtain⟨L,h1,h2,h3⟩:=h
 exact (law11_of a n c L w h1 hn).mono fun _ _ ⟨a',c',he,h4,hb⟩=>⟨a',c',he,⟨L,h4,h2,h3⟩,hb⟩
theorem tt_(a0:OA_)(n0 c0:Nat)(qs0:LR_)(a1:OA_)(n1 c1:Nat)(qs1:LR_)(w:World)(h0:Rw w a0 n0 c0 qs0)(h1:Rw w a1 n1 c1 qs1)(hn:n0≤1000)(ht0:∀q∈qs0,qlen q≤15728640000)(ht1:∀q∈qs1,qlen q≤15728640000) :
 Calls Tryz.prog 71 #[.slice a0 n0 c0,.slice a1 n1 c1] w (bi_ (.bool (decide (qs0=qs1))) w):=by
 obtain⟨r,hr⟩:∃r,decide (qs0=qs1)=r:=⟨_,rfl⟩
 have HR:=hd_ hr
 have H1:=hd_ h1
 have HT0:=hd_ ht0
 have HT1:=hd_ ht1
 rw[hr]
 clear hr h1 ht0 ht1
 go_enter Tryz.func71,Tryz.ntmps71
 go_wp2_with fail
 refine (rz_ a0 n0 c0 qs0 _ h0 hn).mono ?_
 rintro e w1 ⟨a2,c2,rfl,h2,b⟩
 have H2:=hd_ h2
 have H3:=H1.l_ b
 have HB:=hd_ b
 clear h2 b H1
 go_wp2_with fail
 refine (ve_ a2 n0 c2 qs0 a1 n1 c1 qs1 _ H2.out H3.out hn HT0.out HT1.out).mono ?_
 rintro e w2 ⟨rfl,b⟩
 rw[HR.out]
 have HB2:=hd_ (ab_ HB.out b)
 clear b
 go_wp2
 go_ret
 exact⟨rfl,HB2.out⟩

theorem Fxs.boxed{w:World}{a:Option Addr}{n c:Nat}{L:List Fx}(h:Fxs w a n c L){g:Nat}{x y:Option Addr}{n1 c1 n2 c2:Nat}{t:TypeId}(hg:w.heap[g]? = some (.cells #[.slice x n1 c1,.slice y n2 c2] t (0,0)))(u v:Value) :
 Fxs ((w.setCell ⟨g,0,none⟩ u).setCell ⟨g,1,none⟩ v) a n c L:=h.aside (v:=.slice (some ⟨g,0,none⟩) 0 0) (co_ hg fs_) (cb_ (bv_ w g 0 u) (bv_ _ g 1 v))
theorem law15_to(a:OA_)(n c:Nat)(L:List Fx)(b:OA_)(m d:Nat)(M:List Fx)(w:World)(hU:Fxs w a n c L)(hV:Fxs w b m d M)(ln:n≤1000)(lm:m≤1000):Calls Tryz.prog 12 #[.agg #[.slice a n c,.slice b m d]] w
 (fun e w'=>∃(a':OA_) (c':Nat) (b':OA_) (d':Nat),e=.returned (.agg #[.slice a' n c',.slice b' m d'])∧Fxs w' a' n c' L∧Fxs w' b' m d' M∧Below w.heap.size w w'):=by
 have HTU:∀w':World,Fxs w' a n c L→_:=fun w' h9=>tf_ a n c L w' h9 ln
 have HTV:∀w':World,Fxs w' b m d M→_:=fun w' h9=>tf_ b m d M w' h9 lm
 have HB:=hd_ (ab_ (aa_ w (.cells #[.slice a n c,.slice b m d] 24)) (aa_ _ (.cells #[.slice none 0 0,.slice none 0 0] 35)))
 have X0:Hid (((w.alloc (.cells #[.slice a n c,.slice b m d] 24)).alloc (.cells #[.slice none 0 0,.slice none 0 0] 35)).heap[w.heap.size]? = some (.cells #[.slice a n c,.slice b m d] 24 (0,0))):=hd_ (ac_ (ai_ w _ _) (aa_ _ (.cells #[.slice none 0 0,.slice none 0 0] 35)))
 have R0:Hid (((w.alloc (.cells #[.slice a n c,.slice b m d] 24)).alloc (.cells #[.slice none 0 0,.slice none 0 0] 35)).heap[w.heap.size+1]? = some (.cells #[.slice none 0 0,.slice none 0 0] 35 (0,0))):=hd_ (by have h9:=ai_ (w.alloc (.cells #[.slice a n c,.slice b m d] 24)) #[.slice none 0 0,.slice none 0 0] 35;rwa [al_] at h9)
 have A1:=hd_ (hU.later HB.out)
 have A2:=hd_ (hV.later HB.out)
 clear hU hV
 go_enter Tryz.func12,Tryz.ntmps12
 go_wp2
 generalize (w.alloc (.cells #[.slice a n c,.slice b m d] 24)).alloc (.cells #[.slice none 0 0,.slice none 0 0] 35)=W at *
 replace HB:=bt_ HB (dw_ W)
 replace X0:Hid (W.drew.heap[w.heap.size]? = _):=hd_ X0.out
 replace R0:Hid (W.drew.heap[w.heap.size+1]? = some (.cells #[.slice none 0 0,.slice none 0 0] 35 (0,0))):=hd_ R0.out
 replace A1:=A1.l_ (dw_ W)
 replace A2:=A2.l_ (dw_ W)
 have pSn:=d3_ X0.out
 go_region_held3 (fun w'=>w'.cell? ⟨w.heap.size,0,none⟩=some (.slice a n c)∧w'.cell? ⟨w.heap.size,1,none⟩=some (.slice b m d)) (first | exact pSn | exact pSb _ _)
  (first
  | (go_at_call 60;(first
    | (have pm1:=pM1;refine (HTV _ A2.out).mono ?_;rintro e wp2 ⟨a4,c4,rfl,h4,b⟩;replace HB:=bt_ HB b;replace X0:=bl_ X0 b;replace R0:=bl_ R0 b;replace A1:=A1.l_ b;replace A2:=A2.l_ b;replace P3:=P3.l_ b;have P4:=hd_ h4;clear h4;obtain⟨r0,r1⟩:=a0_ R0.out;have e0:=ad_ R0.out 0;have e1:=ad_ R0.out 1;have pSb:=fun u v=>d3_ (bh_ (g:=w.heap.size+1) X0.out (by omega) u v);clear b;clear pSn;have pSn:=d3_ X0.out;clear pM1 pm1;have pM2:=True.intro)
    | (refine (HTU _ A1.out).mono ?_;rintro e wp1 ⟨a3,c3,rfl,h3,b⟩;replace HB:=bt_ HB b;replace X0:=bl_ X0 b;replace R0:=bl_ R0 b;replace A1:=A1.l_ b;replace A2:=A2.l_ b;have P3:=hd_ h3;clear h3;clear b;clear pSn;have pSn:=d3_ X0.out;have pM1:=True.intro))))
 have R9:=hd_ (a4_ R0.out (.slice a3 n c3) (.slice a4 m c4))
 have P9:=hd_ (P3.out.boxed R0.out (.slice a3 n c3) (.slice a4 m c4))
 have Q9:=hd_ (P4.out.boxed R0.out (.slice a3 n c3) (.slice a4 m c4))
 have G9:=hd_ (an_ HB.out (show w.heap.size≤w.heap.size+1 by omega) (.slice a3 n c3) (.slice a4 m c4))
 go_wp2
 refine bodyPost_ret (results_cell_row Tryz.results12 _ _ (w.heap.size+1) 35 #[.slice a3 n c3,.slice a4 m c4] (0,0) _ rfl R9.out Tryz.underlying35 rfl (by kernel_rfl)) rfl ?_
 exact⟨a3,c3,a4,c4,rfl,P9.out,Q9.out,G9.out⟩
theorem law15_is(a1:OA_)(n1 c1:Nat)(u1:LR_)(b1:OA_)(m1 d1:Nat)(v1:LR_)(a2:OA_)(n2 c2:Nat)(u2:LR_)(b2:OA_)(m2 d2:Nat)(v2:LR_)(r:Bool)(w:World)(ha1:Rw w a1 n1 c1 u1)(hb1:Rw w b1 m1 d1 v1)(ha2:Rw w a2 n2 c2 u2)(hb2:Rw w b2 m2 d2 v2)(ln:n1≤1000)(lm:m1≤1000)(q1:∀q∈u1,qlen q≤15728640000)(q2:∀q∈v1,qlen q≤15728640000)(q3:∀q∈u2,qlen q≤15728640000)(q4:∀q∈v2,qlen q≤15728640000)
 (hr:decide (u1=u2∧v1=v2)=r):Calls Tryz.prog 19 #[.agg #[.slice a1 n1 c1,.slice b1 m1 d1],.agg #[.slice a2 n2 c2,.slice b2 m2 d2]] w (bi_ (.bool r) w):=by
 have HS1:=fun w' h8 h9=>tt_ a1 n1 c1 u1 a2 n2 c2 u2 w' h8 h9 ln q1 q3
 have HS2:=fun w' h8 h9=>tt_ b1 m1 d1 v1 b2 m2 d2 v2 w' h8 h9 lm q2 q4
 have HB:=hd_ (ab_ (aa_ w (.cells #[.slice a1 n1 c1,.slice b1 m1 d1] 35)) (aa_ _ (.cells #[.slice a2 n2 c2,.slice b2 m2 d2] 24)))
 have X0:Hid (((w.alloc (.cells #[.slice a1 n1 c1,.slice b1 m1 d1] 35)).alloc (.cells #[.slice a2 n2 c2,.slice b2 m2 d2] 24)).heap[w.heap.size]? = some (.cells #[.slice a1 n1 c1,.slice b1 m1 d1] 35 (0,0))):=hd_ (ac_ (ai_ w _ _) (aa_ _ (.cells #[.slice a2 n2 c2,.slice b2 m2 d2] 24)))
 have X1:Hid (((w.alloc (.cells #[.slice a1 n1 c1,.slice b1 m1 d1] 35)).alloc (.cells #[.slice a2 n2 c2,.slice b2 m2 d2] 24)).heap[w.heap.size+1]? = some (.cells #[.slice a2 n2 c2,.slice b2 m2 d2] 24 (0,0))):=hd_ (by have h9:=ai_ (w.alloc (.cells #[.slice a1 n1 c1,.slice b1 m1 d1] 35)) #[.slice a2 n2 c2,.slice b2 m2 d2] 24;rwa [al_] at h9)
 have A1:=hd_ (ha1.later HB.out)
 have B1:=hd_ (hb1.later HB.out)
 have A2:=hd_ (ha2.later HB.out)
 have B2:=hd_ (hb2.later HB.out)
 obtain⟨x0,x1⟩:=a0_ X0.out
 obtain⟨x2,x3⟩:=a0_ X1.out
 clear ha1 hb1 ha2 hb2 q1 q2 q3 q4
 by_cases hu:u1=u2
 ·rw[decide_eq_true hu] at HS1
  have hv:decide (v1=v2)=r:=by rw[←hr];exact decide_eq_decide.2 ⟨fun h=>⟨hu,h⟩,fun h=>h.2⟩
  rw[hv] at HS2
  clear hr hv hu
  go_enter Tryz.func19,Tryz.ntmps19
  go_wp2_with fail
  refine (HS1 _ A1.out A2.out).mono ?_
  rintro e w1 ⟨rfl,bw⟩
  clear x0 x1 x2 x3 HS1
  replace HB:=bt_ HB bw
  replace X0:=bl_ X0 bw
  replace X1:=bl_ X1 bw
  replace B1:=B1.l_ bw
  replace B2:=B2.l_ bw
  clear bw
  obtain⟨x0,x1⟩:=a0_ X0.out
  obtain⟨x2,x3⟩:=a0_ X1.out
  go_wp2_with fail
  refine (HS2 _ B1.out B2.out).mono ?_
  rintro e w2 ⟨rfl,bw⟩
  replace HB:=bt_ HB bw
  clear bw x0 x1 x2 x3 X0 X1
  go_wp2
  go_ret
  exact⟨rfl,HB.out⟩
 ·rw[decide_eq_false hu] at HS1
  have hrf:r=false:=by rw[←hr];exact decide_eq_false (fun h=>hu h.1)
  subst hrf
  clear hr hu HS2
  go_enter Tryz.func19,Tryz.ntmps19
  go_wp2_with fail
  refine (HS1 _ A1.out A2.out).mono ?_
  rintro e w1 ⟨rfl,bw⟩
  clear x0 x1 x2 x3 HS1
  replace HB:=bt_ HB bw
  clear bw X0 X1 B1 B2 A1 A2
  go_wp2
  go_ret
  exact⟨rfl,HB.out⟩
structure FigureSaid:Prop where
structure RowSaid:Prop where
structure PolySaid:Prop where
 norm:∀(a:OA_) (n c:Nat) (L:List Fx) (w:World),Fxs w a n c L→n≤300→thin 2000000000 L→Calls Tryz.prog 95 #[.slice a n c] w (b8_ (ah_ (fqs L)) w)
 degree:∀(a:OA_) (n c:Nat) (L:List Fx) (w:World),Fxs w a n c L→n≤300→thin 2000000000 L→Calls Tryz.prog 61 #[.slice a n c] w (bi_ (.int .i64 ((plen (fqs L):Int) - 1)) w)
 same:∀(a:OA_) (n c:Nat) (L:List Fx) (b:OA_) (m d:Nat) (M:List Fx) (w:World),Fxs w a n c L→Fxs w b m d M→n≤300→m≤300→thin 1900000000 L→thin 1900000000 M→Calls Tryz.prog 74 #[.slice a n c,.slice b m d] w (bi_ (.bool (decide (ah_ (fqs L)=ah_ (fqs M)))) w)
 add:∀(a:OA_) (n c:Nat) (L:List Fx) (b:OA_) (m d:Nat) (M:List Fx) (w:World),Fxs w a n c L→Fxs w b m d M→n≤300→m≤300→thin 900000000 L→thin 900000000 M→Calls Tryz.prog 83 #[.slice a n c,.slice b m d] w (b8_ (ah_ (padd (fqs L) (fqs M))) w)
 mul:∀(a:OA_) (n c:Nat) (L:List Fx) (b:OA_) (m d:Nat) (M:List Fx) (N K:Nat) (w:World),Fxs w a n c L→Fxs w b m d M→n≤100→m≤100→thin N L→thin K M→(n+1) * (N+K+8)≤1900000000→Calls Tryz.prog 75 #[.slice a n c,.slice b m d] w (b8_ (ah_ (pmul (fqs L) (fqs M))) w)
 scale:∀(v:Value) (q:Rat) (a:OA_) (n c:Nat) (L:List Fx) (w:World),Fr w v q 900000000→Fxs w a n c L→n≤300→thin 900000000 L→Calls Tryz.prog 64 #[v,.slice a n c] w (b8_ (ah_ (ag_ q (fqs L))) w)
 eval:∀(a:OA_) (n c:Nat) (L:List Fx) (v:Value) (q:Rat) (N X:Nat) (w:World),Fxs w a n c L→Fr w v q X→n≤100→thin N L→(n+1) * ((n+1) * (X+8)+N+8)≤1900000000→Calls Tryz.prog 112 #[.slice a n c,v] w (LstQ (ba_ q (fqs L)) w)
 div_more:∀(a:OA_) (n c:Nat) (L:List Fx) (b:OA_) (m d:Nat) (M:List Fx) (k l:Rat) (P Z:LR_) (S T:Nat) (w:World),Fxs w a n c L→Fxs w b m d M→n≤60→m≤60→thin 1900000000 L→thin 1900000000 M→Ints P (pw S)→Ints Z (pw S)→peq (fqs L) (ag_ k P)→peq (fqs M) (ag_ l Z)→4 * (qlen k+qlen l+(n+4) * (S+3))≤T→T≤1900000000→Hid (plen (fqs M)≠0)→Calls Tryz.prog 107 #[.slice a n c,.slice b m d] w (LstDiv (fqs L) (fqs M) T w)
 gcd_more:∀(a:OA_) (n c:Nat) (L:List Fx) (b:OA_) (m d:Nat) (M:List Fx) (g s S h:Nat) (w:World),Fxs w a n c L→Fxs w b m d M→n≤h→m≤h→h≤300→thin 1900000000 L→thin 1900000000 M→0 < g→g≤pw s→Ints (ag_ ((g:Nat):Rat) (fqs L)) (pw s)→Ints (ag_ ((g:Nat):Rat) (fqs M)) (pw s)→(s+1) * (plen (fqs L)+plen (fqs M)+1)=S→(2 * h+20) * (S+3)≤1900000000→Calls Tryz.prog 106 #[.slice a n c,.slice b m d] w (o5_ (fqs L) (fqs M) (S+2) w)
def ReadAt (l:List UInt8) (f i:Nat) (V:LR_):Prop:=
 (f≤i∧i≤l.length∧i - f≤mq_ (l.drop f)∧kc_ (gu_ l)=kc_ (gu_ (l.drop f))∧jx_ 0 (gu_ l)=jx_ f (gu_ (l.drop f))∧(gu_ l).map s8_=V ++ (gu_ (l.drop f)).map s8_)∨
 (i=l.length+1∧f=i∧kc_ (gu_ l)=0∧(gu_ l).map s8_=V)
theorem nr_:∀(P:List (List UInt8)) (off:Nat),kc_ P=0→jx_ off P=0
 | [],_,_=>rfl
 | p :: P,off,h=>by
   rw[kc_] at h
   split at h
   ·rename_i h2;exact absurd h h2
   ·rename_i h2
    rw[jx_,if_neg h2]
    exact nr_ P _ h
theorem ReadAt.start(l:List UInt8):ReadAt l 0 0 []:=.inl ⟨Nat.le_refl _,Nat.zero_le _,Nat.zero_le _,rfl,rfl,rfl⟩
theorem ReadAt.bound{l:List UInt8}{f i:Nat}{V:List Rat}(h:ReadAt l f i V):f≤i∧i≤l.length+1:=by
 rcases h with h | h
 ·exact⟨h.1,Nat.le_succ_of_le h.2.1⟩
 ·exact⟨Nat.le_of_eq h.2.1,Nat.le_of_eq h.1⟩
theorem ReadAt.done{l:List UInt8}{f i:Nat}{V:List Rat}(h:ReadAt l f i V)(hl:l≠[])(hi:l.length < i):rowKind l=0∧s7_ l=0∧rowVals l=V:=by
 rcases h with h | ⟨_,_,h1,h2⟩
 ·omega
 ·refine ⟨?_,?_,?_⟩
  ·unfold rowKind;rw[if_neg hl];exact h1
  ·unfold s7_;rw[if_neg hl];exact nr_ _ _ h1
  ·unfold rowVals;rw[if_neg (by rintro (h | h);exact hl h;exact h h1)];exact h2

def Pv (w:World) (a:OA_) (n c:Nat) (P:LR_) (N:Nat):Prop:=∃L,Fxs w a n c L∧fqs L=P∧thin N L
theorem Pv.later{w w':World}{a:Option Addr}{n c N:Nat}{P:List Rat}(h:Pv w a n c P N)(hb:Below w.heap.size w w'):Pv w' a n c P N:=by
 obtain⟨L,h1,h2⟩:=h
 exact⟨L,h1.later hb,h2⟩
theorem Pv.l_ {w w':World}{x0 x1 x2 x3 x4}(h:Pv w x0 x1 x2 x3 x4)(b:Below w.heap.size w w'):Hid (Pv w' x0 x1 x2 x3 x4):=Lib.hid (h.later b)
theorem Pv.len{w:World}{a:Option Addr}{n c N:Nat}{P:List Rat}(h:Pv w a n c P N):P.length=n:=by
 obtain⟨L,h1,rfl,_⟩:=h
 rw[av_];exact h1.len
theorem Pv.bound{w:World}{a:Option Addr}{n c N:Nat}{P:List Rat}(h:Pv w a n c P N):n≤c∧c≤9223372036854775807:=by
 obtain⟨L,h1,_⟩:=h
 exact h1.bound
theorem Pv.of{w:World}{a:Option Addr}{n c N:Nat}{L:List Fx}(h:Fxs w a n c L)(ht:thin N L):Pv w a n c (fqs L) N:=⟨L,h,rfl,ht⟩
theorem Pv.right{w:World}{a:Option Addr}{n c N:Nat}{P:List Rat}(h:Rw w a n c P)(hq:∀q∈P,qlen q≤N):Pv w a n c P N:=by
 obtain⟨L,h1,h2,h3⟩:=h.thin hq
 exact⟨L,h1,h2,h3⟩
theorem Pv.nil(w:World)(N:Nat):Pv w none 0 0 [] N:=⟨[],⟨rfl,Nat.le_refl _,by omega,fun _=>rfl,fun x hx=>by (simp at hx),.inl rfl⟩,rfl,fun x hx=>by simp at hx⟩
theorem Pv.more{w:World}{a:Option Addr}{n c N K:Nat}{P:List Rat}(h:Pv w a n c P N)(hk:N≤K):Pv w a n c P K:=by
 obtain⟨L,h1,h2,h3⟩:=h
 exact⟨L,h1,h2,h3.mono hk⟩
theorem Pv.qlen{w:World}{a:Option Addr}{n c N:Nat}{P:List Rat}(h:Pv w a n c P N):∀q∈P,Go.Proofs.YtocebjbjnfammaaGreat.qlen q≤N+1:=by
 obtain⟨L,h1,rfl,h3⟩:=h
 intro q hq
 obtain⟨x,hx,rfl⟩:=List.mem_map.1 hq
 exact ((h1.ok hx).fr (h3 x hx).1 (h3 x hx).2).len
theorem norm_pv(S:PolySaid){w:World}{a:Option Addr}{n c N:Nat}{P:List Rat}(h:Pv w a n c P N)(hn:n≤300)(hN:N≤1900000000):Calls Tryz.prog 95 #[.slice a n c] w (b8_ (ah_ P) w):=by
 obtain⟨L,h1,rfl,h3⟩:=h
 exact S.norm a n c L w h1 hn (h3.mono (by omega))
theorem jo_(S:PolySaid){w:World}{a:Option Addr}{n c N:Nat}{P:List Rat}(h:Pv w a n c P N)(hn:n≤300)(hN:N≤1900000000):Calls Tryz.prog 61 #[.slice a n c] w (bi_ (.int .i64 ((plen P:Int) - 1)) w):=by
 obtain⟨L,h1,rfl,h3⟩:=h
 exact S.degree a n c L w h1 hn (h3.mono (by omega))
theorem same_pv(S:PolySaid){w:World}{a b:Option Addr}{n c m d N K:Nat}{P Q:List Rat}(h:Pv w a n c P N)(k:Pv w b m d Q K)(hn:n≤300)(hm:m≤300)(hN:N≤1900000000)(hK:K≤1900000000):Calls Tryz.prog 74 #[.slice a n c,.slice b m d] w (bi_ (.bool (decide (ah_ P=ah_ Q))) w):=by
 obtain⟨L,h1,rfl,h3⟩:=h
 obtain⟨M,k1,rfl,k3⟩:=k
 exact S.same a n c L b m d M w h1 k1 hn hm (h3.mono hN) (k3.mono hK)
theorem add_pv(S:PolySaid){w:World}{a b:Option Addr}{n c m d N K:Nat}{P Q:List Rat}(h:Pv w a n c P N)(k:Pv w b m d Q K)(hn:n≤300)(hm:m≤300)(hN:N≤900000000)(hK:K≤900000000):Calls Tryz.prog 83 #[.slice a n c,.slice b m d] w (b8_ (ah_ (padd P Q)) w):=by
 obtain⟨L,h1,rfl,h3⟩:=h
 obtain⟨M,k1,rfl,k3⟩:=k
 exact S.add a n c L b m d M w h1 k1 hn hm (h3.mono hN) (k3.mono hK)
theorem nb_(S:PolySaid){w:World}{a b:Option Addr}{n c m d N K:Nat}{P Q:List Rat}(h:Pv w a n c P N)(k:Pv w b m d Q K)(hn:n≤100)(hm:m≤100)(hb:(n+1) * (N+K+8)≤1900000000):Calls Tryz.prog 75 #[.slice a n c,.slice b m d] w (b8_ (ah_ (pmul P Q)) w):=by
 obtain⟨L,h1,rfl,h3⟩:=h
 obtain⟨M,k1,rfl,k3⟩:=k
 exact S.mul a n c L b m d M N K w h1 k1 hn hm h3 k3 hb
theorem eval_pv(S:PolySaid){w:World}{a:Option Addr}{n c N X:Nat}{P:List Rat}{v:Value}{q:Rat}(h:Pv w a n c P N)(k:Fr w v q X)(hn:n≤100)(hb:(n+1) * ((n+1) * (X+8)+N+8)≤1900000000):Calls Tryz.prog 112 #[.slice a n c,v] w (LstQ (ba_ q P) w):=by
 obtain⟨L,h1,rfl,h3⟩:=h
 exact S.eval a n c L v q N X w h1 k hn h3 hb
def ppow (u:LR_):Nat→List Rat
 | 0=>[1]
 | k+1=>pmul (ppow u k) u
theorem hf_{u:List Rat}(h:plen u≠0):∀k,plen (ppow u k)≠0
 | 0=>by show plen [1]≠0;rw[eo_ (by decide)];decide
 | k+1=>e8_ (hf_ h k) h
theorem isF.times{A B x y u v x' y':List Rat}(h:isF A B x y)(hB:plen B≠0)(hv:plen v≠0)(h':isF (pmul x u) (pmul y v) x' y'):isF (pmul A u) (pmul B v) x' y':=by
 refine h'.cross (e8_ h.1.v0 hv) (e8_ hB hv) (ap_ fun z=>?_)
 have e:=ak_ z (h.2.2 hB)
 simp only[ae_] at e ⊢
 grind
theorem Fz.pow{u v:List Rat}{h r:Nat}(f:Fz u v h r)(hh:h≤1000):∀k,k≤100→Fz (ppow u k) (ppow v k) (1+k * h) (2+k * (r+2))
 | 0,_=>by
   have hq1:∀x∈[(1:Rat)],Go.Proofs.YtocebjbjnfammaaGreat.qlen x≤1:=fun x hx=>by
    rw[List.mem_singleton.1 hx]
    refine fj_ ?_ ?_
    ·show (dg 1).length≤1
     rw[gg_ (by decide) (by decide)];exact Nat.le_refl _
    ·show (dg 1).length≤1
     rw[gg_ (by decide) (by decide)];exact Nat.le_refl _
   exact Fz.of (N:=1) (n:=1) (m:=1) hq1 hq1 (Nat.le_refl 1) (Nat.le_refl 1) (by omega) (by omega) (by omega)
 | k+1,hk=>by
   have h1:k * h≤100 * 1000:=Nat.mul_le_mul (by omega) hh
   have:=(f.pow hh k (by omega)).mul f (by omega)
   rw[Nat.add_mul,Nat.one_mul,Nat.add_mul,Nat.one_mul]
   exact this.mono (by omega) (by omega)
def LstFV (U V:LR_) (z:Value) (w:World) (e:Ending) (w':World):Prop:=∃(a:OA_) (n c:Nat) (u:LR_) (b:OA_) (m d:Nat) (v:LR_),e=.returned (.tuple #[.agg #[.slice a n c,.slice b m d],z])∧Rw w' a n c u∧Rw w' b m d v∧isF U V u v∧Below w.heap.size w w'
def BoxF (w:World) (g:Nat) (t:TypeId) (U V:LR_):Prop:=
 ∃(a:OA_) (n c:Nat) (u:LR_) (b:OA_) (m d:Nat) (v:LR_),w.heap[g]? = some (.cells #[.slice a n c,.slice b m d] t (0,0))∧Rw w a n c u∧Rw w b m d v∧isF U V u v
def Fv (w:World) (a:OA_) (n c:Nat) (b:OA_) (m d:Nat) (u v:LR_) (h s:Nat):Prop:=∃U V,Pv w a n c U (s+2)∧Pv w b m d V (s+2)∧isF U V u v∧Fz U V h s∧Fz u v h s
theorem Fv.later{w w':World}{a:Option Addr}{n c:Nat}{b:Option Addr}{m d:Nat}{u v:List Rat}{h s:Nat}(f:Fv w a n c b m d u v h s)(hb:Below w.heap.size w w'):Fv w' a n c b m d u v h s:=by
 obtain⟨U,V,h1,h2,h3⟩:=f
 exact⟨U,V,h1.later hb,h2.later hb,h3⟩
theorem Fv.l_ {w w':World}{x0 x1 x2 x3 x4 x5 x6 x7 x8 x9}(h:Fv w x0 x1 x2 x3 x4 x5 x6 x7 x8 x9)(b:Below w.heap.size w w'):Hid (Fv w' x0 x1 x2 x3 x4 x5 x6 x7 x8 x9):=Lib.hid (h.later b)
theorem Fv.mono{w:World}{a:Option Addr}{n c:Nat}{b:Option Addr}{m d:Nat}{u v:List Rat}{h s h' s':Nat}(f:Fv w a n c b m d u v h s)(hh:h≤h')(hs:s≤s'):Fv w a n c b m d u v h' s':=by
 obtain⟨U,V,h1,h2,h3,h4,h5⟩:=f
 exact⟨U,V,h1.more (by omega),h2.more (by omega),h3,h4.mono hh hs,h5.mono hh hs⟩
theorem Fv.rf{w:World}{a:Option Addr}{n c:Nat}{b:Option Addr}{m d:Nat}{u v:List Rat}{h s:Nat}(f:Fv w a n c b m d u v h s):Rf u v:=by
 obtain⟨U,V,h1,h2,h3,_⟩:=f
 exact h3.1
theorem Fv.raw{w:World}{a:Option Addr}{n c:Nat}{b:Option Addr}{m d:Nat}{U V u v:List Rat}{h s N:Nat}(hU:Pv w a n c U N)(hV:Pv w b m d V N)(hN:N≤s+2)(hf:isF U V u v)(hz:Fz U V h s)(h1:1≤h)(h2:h≤1000000):Fv w a n c b m d u v h ((s+1) * (2 * h)):=by
 have h3:s≤(s+1) * (2 * h):=Nat.le_trans (Nat.le_succ s) (Nat.le_mul_of_pos_right _ (by omega))
 exact⟨U,V,hU.more (by omega),hV.more (by omega),hf,hz.mono (Nat.le_refl _) h3,hz.right hf h1 h2⟩
theorem Fv.right{w:World}{a:Option Addr}{n c:Nat}{b:Option Addr}{m d:Nat}{u v:List Rat}{h s:Nat}(hu:Rw w a n c u)(hv:Rw w b m d v)(hf:Rf u v)(hz:Fz u v h s)(_:s+2≤1900000000):Fv w a n c b m d u v h s:=⟨u,v,Pv.right hu (fun q hq=>hz.qlen q hq),Pv.right hv (fun q hq=>hz.swap.qlen q hq),hf.isF,hz,hz⟩
abbrev Fok2 (h s k t:Nat):Prop:=Fok (h+k+2) (s+t+30)∧Pok (2 * max h k) (2 * ((s+t+1) * (2 * max h k+1))+3)
structure RatfSaid:Prop where
 of:∀(x:Value) (q:Rat) (X:Nat) (w:World),Fr w x q X→Fok 2 ((X+1) * 3)→Calls Tryz.prog 28 #[x] w (LstF [q] [1] w)
 line:∀(x:Value) (q:Rat) (y:Value) (r:Rat) (X:Nat) (w:World),Fr w x q X→Fr w y r X→Fok 2 ((X+1) * 3)→Calls Tryz.prog 46 #[x,y] w (LstF [q,r] [1] w)
 zero:∀(a:OA_) (n c:Nat) (b:OA_) (m d:Nat) (u v:LR_) (h s:Nat) (w:World),Fv w a n c b m d u v h s→Fok h s→Calls Tryz.prog 23 #[.agg #[.slice a n c,.slice b m d]] w (bi_ (.bool (decide (u=[]))) w)
 same:∀(a:OA_) (n c:Nat) (b:OA_) (m d:Nat) (u v:LR_) (h s:Nat) (a':OA_) (n' c':Nat) (b':OA_) (m' d':Nat) (x y:LR_) (k t:Nat) (w:World),Fv w a n c b m d u v h s→Fv w a' n' c' b' m' d' x y k t→Fok h s→Fok k t→(h+k+1) * (s+t+20)≤1900000000→Calls Tryz.prog 24 #[.agg #[.slice a n c,.slice b m d],.agg #[.slice a' n' c',.slice b' m' d']] w (bi_ (.bool (decide (u=x∧v=y))) w)
 neg:∀(a:OA_) (n c:Nat) (b:OA_) (m d:Nat) (u v:LR_) (h s:Nat) (w:World),Fv w a n c b m d u v h s→Fok (h+2) (s+30)→Calls Tryz.prog 33 #[.agg #[.slice a n c,.slice b m d]] w (LstF (ag_ (-1) u) v w)
 add:∀(a:OA_) (n c:Nat) (b:OA_) (m d:Nat) (u v:LR_) (h s:Nat) (a':OA_) (n' c':Nat) (b':OA_) (m' d':Nat) (x y:LR_) (k t:Nat) (w:World),Fv w a n c b m d u v h s→Fv w a' n' c' b' m' d' x y k t→Fok2 h s k t→Calls Tryz.prog 35 #[.agg #[.slice a n c,.slice b m d],.agg #[.slice a' n' c',.slice b' m' d']] w (LstF (padd (pmul u y) (pmul x v)) (pmul v y) w)
 sub:∀(a:OA_) (n c:Nat) (b:OA_) (m d:Nat) (u v:LR_) (h s:Nat) (a':OA_) (n' c':Nat) (b':OA_) (m' d':Nat) (x y:LR_) (k t:Nat) (w:World),Fv w a n c b m d u v h s→Fv w a' n' c' b' m' d' x y k t→Fok2 h s k t→Calls Tryz.prog 37 #[.agg #[.slice a n c,.slice b m d],.agg #[.slice a' n' c',.slice b' m' d']] w (LstF (psub (pmul u y) (pmul x v)) (pmul v y) w)
 mul:∀(a:OA_) (n c:Nat) (b:OA_) (m d:Nat) (u v:LR_) (h s:Nat) (a':OA_) (n' c':Nat) (b':OA_) (m' d':Nat) (x y:LR_) (k t:Nat) (w:World),Fv w a n c b m d u v h s→Fv w a' n' c' b' m' d' x y k t→Fok2 h s k t→Calls Tryz.prog 38 #[.agg #[.slice a n c,.slice b m d],.agg #[.slice a' n' c',.slice b' m' d']] w (LstF (pmul u x) (pmul v y) w)
 quo:∀(a:OA_) (n c:Nat) (b:OA_) (m d:Nat) (u v:LR_) (h s:Nat) (a':OA_) (n' c':Nat) (b':OA_) (m' d':Nat) (x y:LR_) (k t:Nat) (w:World),Fv w a n c b m d u v h s→Fv w a' n' c' b' m' d' x y k t→Fok2 h s k t→Calls Tryz.prog 29 #[.agg #[.slice a n c,.slice b m d],.agg #[.slice a' n' c',.slice b' m' d']] w (LstFV (pmul u y) (pmul v x) (.bool (decide (x≠[]))) w)
 pow_pos:∀(a:OA_) (n c:Nat) (b:OA_) (m d:Nat) (u v:LR_) (e:Int) (w:World),Fv w a n c b m d u v 3 42→0≤e→e≤3→Calls Tryz.prog 31 #[.agg #[.slice a n c,.slice b m d],.int .i64 e] w (LstFV (ppow u e.toNat) (ppow v e.toNat) (.bool true) w)
 pow_neg:∀(a:OA_) (n c:Nat) (b:OA_) (m d:Nat) (u v:LR_) (e:Int) (w:World),Fv w a n c b m d u v 3 42→u≠[]→e < 0→-3≤e→Calls Tryz.prog 31 #[.agg #[.slice a n c,.slice b m d],.int .i64 e] w (LstFV (ppow v (-e).toNat) (ppow u (-e).toNat) (.bool true) w)
 pow_no:∀(a:OA_) (n c:Nat) (b:OA_) (m d:Nat) (u v:LR_) (e:Int) (w:World),Fv w a n c b m d u v 3 42→(e < -8∨8 < e∨e < 0∧u=[])→Calls Tryz.prog 31 #[.agg #[.slice a n c,.slice b m d],.int .i64 e] w (LstFV [] [1] (.bool false) w)
 eval_no:∀(a:OA_) (n c:Nat) (b:OA_) (m d:Nat) (u v:LR_) (h s:Nat) (x:Value) (q:Rat) (X:Nat) (w:World),Fv w a n c b m d u v h s→Fr w x q X→Fok h s→(h+1) * ((h+1) * (X+8)+(s+3)+8)≤1900000000→ba_ q v=0→Calls Tryz.prog 16 #[.agg #[.slice a n c,.slice b m d],x] w (gp_ 0 (.bool false) w)
theorem u9_{A B:List Rat}(hB:ah_ B=B)(h0:0 < B.length):∀(n:Nat) (Q R:LR_),R.length≤n→ah_ R=R→peq A (padd (pmul Q B) R)→∃q r,isDiv A B q r∧ah_ r=r:=by
 intro n
 induction n with
 | zero=>exact fun Q R hn hr h=>⟨Q,R,⟨h,by rw[ay_ hr,ay_ hB];omega⟩,hr⟩
 | succ n ih=>
   intro Q R hn hr h
   by_cases hl:R.length < B.length
   ·exact⟨Q,R,⟨h,by rw[ay_ hr,ay_ hB];exact hl⟩,hr⟩
   ·obtain⟨h1,h2⟩:=k2_ hB h0 (by omega) h rfl (peq.refl _) (peq.refl _) (ar_ _) (a9_ _)
    exact ih _ _ (by omega) (a9_ _) h1
theorem o8_:∀(n:Nat) (x y:LR_),y.length≤n→ah_ x=x→ah_ y=y→∃g,common x y g:=by
 intro n
 induction n with
 | zero=>
   intro x y hn _ _
   obtain rfl:y=[]:=List.length_eq_zero_iff.1 (by omega)
   exact⟨x,common.none x⟩
 | succ n ih=>
   intro x y hn hx hy
   by_cases h0:y.length=0
   ·obtain rfl:y=[]:=List.length_eq_zero_iff.1 h0
    exact⟨x,common.none x⟩
   ·obtain⟨q,r,hd,hr⟩:=u9_ (A:=x) hy (by omega) x.length [] x (Nat.le_refl _) hx (ap_ fun z=>by rw[a2_,ae_];show _=0 * _+_;grind)
    have h1:r.length < y.length:=by
     have:=hd.2
     rwa [ay_ hr,ay_ hy] at this
    obtain⟨g,hg⟩:=ih y r (by omega) hy hr
    exact⟨g,common.step hd.1 hg⟩
theorem d1_(U V:LR_):∃u v,isF U V u v:=by
 by_cases hV:plen V=0
 ·exact⟨[],[1],gn_ (.inr hV)⟩
 ·obtain⟨g,hg⟩:=o8_ _ (ah_ U) (ah_ V) (Nat.le_refl _) (a9_ _) (a9_ _)
  have hc:=hg.of (ar_ U) (ar_ V) (peq.refl g)
  obtain⟨y,hy⟩:=hc.2.1
  have hg0:plen g≠0:=fun e=>hV (by rw[ao_ hy,ao_ (a6_ (peq.refl y) (c2_ e)),ao_ (d4_ y)];rfl)
  have ht:=ec_ (a:=g) (n:=plen g - 1) (by omega)
  obtain⟨c,hcd⟩:∃c,1 / co g (plen g - 1)=c:=⟨_,rfl⟩
  have hcg:c * co g (plen g - 1)=1:=by rw[←hcd];exact Rat.div_mul_cancel ht
  have hc0:c≠0:=fun e=>by rw[e,Rat.zero_mul] at hcg;exact absurd hcg (by decide)
  have h2:isGcd U V (ag_ c g):=⟨hc.scale hc0,fun n hn=>by
   have h3:plen (ag_ c g)=plen g:=bj_ hc0 g
   have h4:n=plen g - 1:=by omega
   rw[aj_,h4];exact hcg⟩
  obtain⟨x',hx'⟩:=h2.1.1
  obtain⟨y',hy'⟩:=h2.1.2.1
  exact⟨_,_,si_ h2 hV hx' hy' rfl⟩
structure Rz (u v:LR_) (k l s:Nat):Prop where
 rf:Rf u v
 lu:plen u≤k
 lv:plen v≤l
 fz:Fz u v (max k l) s
theorem Rz.of{U V u v:List Rat}{h s k l:Nat}(f:Fz U V h s)(hf:isF U V u v)(hU:plen U≤k)(hV:plen V≤l)(hl:1≤l)(hkl:k+l≤1000000):Rz u v k l ((s+1) * (k+l)):=by
 have p1:1≤pw ((s+1) * (k+l)):=fh_ _
 by_cases hV0:plen V=0
 ·obtain⟨rfl,rfl⟩:=hf.zero (.inr hV0)
  have h1:plen ([1]:LR_)=1:=eo_ (by decide)
  refine ⟨hf.1,by rw[h4_];exact Nat.zero_le _,by rw[h1];exact hl,by simp,by simp;omega,1,by decide,p1,fun i=>⟨0,rfl,Nat.zero_le _⟩,fun i=>?_⟩
  cases i with
  | zero=>exact⟨1,by rw[aj_,show co [1] 0=(1:Rat) from rfl,Rat.mul_one];rfl,p1⟩
  | succ i=>exact⟨0,by rw[aj_,ch_,ef_,Rat.mul_zero];rfl,Nat.zero_le _⟩
 ·obtain⟨c,c1,c2,c3,c4⟩:=f.form
  obtain⟨l1,l2⟩:=hf.lens hV0
  have l5:=ay_ hf.1.ur
  have l6:=ay_ hf.1.vr
  obtain⟨z,k0,k1,k2,k3⟩:=hf.small hV0 (c:=((c:Nat):Rat)) (fun e=>by have h9:c=0:=Rat.natCast_inj.1 (e.trans rfl);omega) c3 c4 (by omega)
  have hp:pw ((s+1) * (plen u+plen v))≤pw ((s+1) * (k+l)):=cn_ (Nat.mul_le_mul_left _ (by omega))
  exact⟨hf.1,by omega,by omega,by omega,by omega,z.natAbs,by omega,Nat.le_trans k1 hp,k2.abs.mono hp,k3.abs.mono hp⟩
theorem Rz.mono{u v:List Rat}{k l s k' l' s':Nat}(f:Rz u v k l s)(hk:k≤k')(hl:l≤l')(hs:s≤s'):Rz u v k' l' s':=⟨f.rf,Nat.le_trans f.lu hk,Nat.le_trans f.lv hl,f.fz.mono (by omega) hs⟩
theorem Fz.minus{u v:List Rat}{h s:Nat}(f:Fz u v h s):Fz (ag_ (-1) u) v h s:=by
 obtain⟨a,b,c,c1,c2,c3,c4⟩:=f
 refine ⟨by rw[be_];exact a,b,c,c1,c2,fun i=>?_,c4⟩
 obtain⟨z,z1,z2⟩:=c3 i
 refine ⟨-z,?_,by rw[Int.natAbs_neg];exact z2⟩
 rw[aj_] at z1
 rw[aj_,aj_,Rat.intCast_neg,←z1];grind
theorem Rz.add{u v x y a b:List Rat}{k l s k' l' t K D:Nat}(f:Rz u v k l s)(g:Rz x y k' l' t)(h:isF (padd (pmul u y) (pmul x v)) (pmul v y) a b)(hK:k+l' - 1≤K)(hK':k'+l - 1≤K)(hD:l+l' - 1≤D)(hD1:1≤D)(hl:K+D≤1000000)(hm:max k l≤1000000)(hm':max k' l'≤1000000) :
 Rz a b K D ((s+t+3) * (K+D)):=by
 have h1:=cd_ u y
 have h2:=cd_ x v
 have h3:=cd_ v y
 have h4:=hh_ (pmul u y) (pmul x v)
 have:=f.lu;have:=f.lv;have:=g.lu;have:=g.lv
 exact Rz.of (f.fz.add g.fz hm hm') h (by omega) (by omega) hD1 hl
theorem Rz.sub{u v x y a b:List Rat}{k l s k' l' t K D:Nat}(f:Rz u v k l s)(g:Rz x y k' l' t)(h:isF (psub (pmul u y) (pmul x v)) (pmul v y) a b)(hK:k+l' - 1≤K)(hK':k'+l - 1≤K)(hD:l+l' - 1≤D)(hD1:1≤D)(hl:K+D≤1000000)(hm:max k l≤1000000)(hm':max k' l'≤1000000) :
 Rz a b K D ((s+t+3) * (K+D)):=by
 have h1:=cd_ u y
 have h2:=cd_ (ag_ (-1) x) v
 have h3:=cd_ v y
 have h4:=hh_ (pmul u y) (pmul (ag_ (-1) x) v)
 have h5:plen (ag_ (-1) x)=plen x:=bj_ (by decide) x
 have:=f.lu;have:=f.lv;have:=g.lu;have:=g.lv
 refine Rz.of (f.fz.add g.fz.minus hm hm') (h.of (ap_ fun z=>?_) (peq.refl _)) (by omega) (by omega) hD1 hl
 rw[cj_,a2_,ae_,ae_,ae_,au_];grind
theorem Rz.mul{u v x y a b:List Rat}{k l s k' l' t K D:Nat}(f:Rz u v k l s)(g:Rz x y k' l' t)(h:isF (pmul u x) (pmul v y) a b)(hK:k+k' - 1≤K)(hD:l+l' - 1≤D)(hD1:1≤D)(hl:K+D≤1000000)(hm:max k l≤1000000) :
 Rz a b K D ((s+t+3) * (K+D)):=by
 have h1:=cd_ u x
 have h3:=cd_ v y
 have:=f.lu;have:=f.lv;have:=g.lu;have:=g.lv
 exact Rz.of (f.fz.mul g.fz hm) h (by omega) (by omega) hD1 hl
theorem Rz.quo{u v x y a b:List Rat}{k l s k' l' t K D:Nat}(f:Rz u v k l s)(g:Rz x y k' l' t)(h:isF (pmul u y) (pmul v x) a b)(hK:k+l' - 1≤K)(hD:l+k' - 1≤D)(hD1:1≤D)(hl:K+D≤1000000)(hm:max k l≤1000000) :
 Rz a b K D ((s+t+3) * (K+D)):=by
 have h1:=cd_ u y
 have h3:=cd_ v x
 have:=f.lu;have:=f.lv;have:=g.lu;have:=g.lv
 exact Rz.of (f.fz.mul g.fz.swap hm) h (by omega) (by omega) hD1 hl
theorem Fr.len_max{w:World}{v:Value}{q:Rat}{N:Nat}(h:Fr w v q N)(hN:1≤N):qlen q≤N:=by
 obtain⟨neg,a,n,cap,la,b,m,cap',lb,rfl,ha,hb,hn,hm,rfl⟩:=h
 by_cases hv:val lb=0
 ·rw[d5_ neg (.inl hv)]
  refine fj_ ?_ ?_
  ·show (dg (0:Nat)).length≤_
   rw[cm_];exact Nat.zero_le _
  ·show (dg (1:Nat)).length≤_
   have:=et_;omega
 ·obtain⟨h1,h2⟩:=e3_ neg (u:=val la) hv
  refine fj_ ?_ ?_
  ·rw[h1,dy_]
   exact Nat.le_trans (aw_ (Nat.div_le_self _ _)) (Nat.le_trans ha.trim_le (by omega))
  ·rw[h2]
   exact Nat.le_trans (aw_ (Nat.div_le_self _ _)) (Nat.le_trans hb.trim_le (by omega))
theorem Pv.qlen_max{w:World}{a:Option Addr}{n c N:Nat}{P:List Rat}(h:Pv w a n c P N)(hN:1≤N):∀q∈P,Go.Proofs.YtocebjbjnfammaaGreat.qlen q≤N:=by
 obtain⟨L,h1,rfl,h3⟩:=h
 intro q hq
 obtain⟨x,hx,rfl⟩:=List.mem_map.1 hq
 exact ((h1.ok hx).fr (h3 x hx).1 (h3 x hx).2).len_max hN
theorem Fv.arg{w:World}{a:Option Addr}{n c:Nat}{b:Option Addr}{m d:Nat}{U V u v:List Rat}{k:Nat}(hU:Pv w a n c U 1)(hV:Pv w b m d V 1)(hn:n≤k)(hm:m≤k)(h1:1≤k)(h2:k≤1000)(hf:isF U V u v):Fv w a n c b m d u v k ((k+k+1) * (2 * k))∧Rz u v k k ((k+k+1) * (k+k)):=by
 have hz:Fz U V k (k+k):=Fz.of (N:=1) (n:=k) (m:=k) (hU.qlen_max (Nat.le_refl _)) (hV.qlen_max (Nat.le_refl _)) (by rw[hU.len];exact hn) (by rw[hV.len];exact hm) (Nat.le_refl _) (Nat.le_refl _) (by omega)
 have l1:=bc_ U
 have l2:=bc_ V
 rw[hU.len] at l1
 rw[hV.len] at l2
 exact⟨Fv.raw hU hV (by omega) hf hz h1 (by omega),Rz.of hz hf (by omega) (by omega) h1 (by omega)⟩
theorem rdiv_eq{a b c d:Rat}(hb:b≠0)(hd:d≠0)(h:a * d=b * c):a / b=c / d:=by
 have h1:a / b * b=a:=Rat.div_mul_cancel hb
 have h2:c / d * d=c:=Rat.div_mul_cancel hd
 generalize a / b=x at *
 generalize c / d=y at *
 have h3:(x - y) * (b * d)=0:=by grind
 rcases Rat.mul_eq_zero.1 h3 with h | h
 ·grind
 ·rcases Rat.mul_eq_zero.1 h with h | h
  ·exact absurd h hb
  ·exact absurd h hd
theorem isF.val{U V u v:List Rat}(h:isF U V u v){x:Rat}(hx:ba_ x V≠0):ba_ x v≠0∧ba_ x u / ba_ x v=ba_ x U / ba_ x V:=
 ⟨(h.value hx).1,rdiv_eq (h.value hx).1 hx (h.value hx).2⟩
def LstX (u v:LR_) (w:World) (e:Ending) (w':World):Prop:=∃(a:OA_) (n c:Nat) (b:OA_) (m d:Nat),e=.returned (.agg #[.slice a n c,.slice b m d])∧Rw w' a n c u∧Rw w' b m d v∧Below w.heap.size w w'
def lr_ (u v:LR_) (z:Value) (w:World) (e:Ending) (w':World):Prop:=∃(a:OA_) (n c:Nat) (b:OA_) (m d:Nat),e=.returned (.tuple #[.agg #[.slice a n c,.slice b m d],z])∧Rw w' a n c u∧Rw w' b m d v∧Below w.heap.size w w'
theorem LstF.just{U V u v:List Rat}(h:isF U V u v){w w':World}{e:Ending}(k:LstF U V w e w'):LstX u v w e w':=by
 obtain⟨a,n,c,x,b,m,d,y,rfl,h1,h2,h3,h4⟩:=k
 obtain⟨rfl,rfl⟩:=h.same h3
 exact⟨a,n,c,b,m,d,rfl,h1,h2,h4⟩
theorem LstFV.just{U V u v:List Rat}{z:Value}(h:isF U V u v){w w':World}{e:Ending}(k:LstFV U V z w e w'):lr_ u v z w e w':=by
 obtain⟨a,n,c,x,b,m,d,y,rfl,h1,h2,h3,h4⟩:=k
 obtain⟨rfl,rfl⟩:=h.same h3
 exact⟨a,n,c,b,m,d,rfl,h1,h2,h4⟩
theorem py_{u:List Rat}(h:ah_ u=u):Rf u [1]:=⟨h,by decide +kernel,by rw[eo_ (by decide)];decide,by rw[eo_ (by decide)];rfl,[],[1],ap_ fun x=>by
 rw[a2_,ae_,ae_,b3_];show 0 * _+_=_;grind⟩
theorem sj_:Rf [1] [0,1]:=⟨by decide +kernel,by decide +kernel,by decide +kernel,by decide +kernel,[1],[],ap_ fun x=>by
 rw[a2_,ae_,ae_,b3_];show _+0 * _=_;grind⟩
theorem ex15_quo:isF (pmul [0,1] [1]) (pmul [1] [0,2]) [1 / 2] [1]:=⟨py_ (by decide +kernel),fun h=>absurd h (by decide +kernel),fun _=>ap_ fun x=>by
 simp only[ae_,b3_]
 show 1 / 2 * (1 * (0+x * (2+x * 0)))=1 * ((0+x * (1+x * 0)) * 1)
 grind⟩
theorem ex15_over:isF (pmul [1] [1]) (pmul [1] [0,1]) [1] [0,1]:=⟨sj_,fun h=>absurd h (by decide +kernel),fun _=>ap_ fun x=>by
 rw[ae_,ae_,ae_,ae_,b3_];grind⟩
theorem i6_{u v:List Rat}(hu:∀q∈u,qlen q≤2)(hv:∀q∈v,qlen q≤2)(lu:u.length≤2)(lv:v.length≤2):Fz u v 2 8:=Fz.of (N:=2) (n:=2) (m:=2) hu hv lu lv (Nat.le_refl _) (Nat.le_refl _) (Nat.le_refl _)
theorem qw_:qlen (1 / 2:Rat)≤2:=by
 have h1:(1 / 2:Rat)=((1:Int):Rat) / ((2:Int):Rat):=by decide +kernel
 rw[h1,Rat.div_def]
 have h2:qlen ((1:Int):Rat)≤2:=br_ (by decide)
 refine fj_ ?_ ?_
 ·show (dg (((1:Int):Rat) * ((2:Int):Rat)⁻¹).num.natAbs).length≤2
  rw[show (((1:Int):Rat) * ((2:Int):Rat)⁻¹).num.natAbs=1 by decide +kernel,gg_ (by decide) (by decide)];decide
 ·show (dg (((1:Int):Rat) * ((2:Int):Rat)⁻¹).den).length≤2
  rw[show (((1:Int):Rat) * ((2:Int):Rat)⁻¹).den=2 by decide +kernel,gg_ (by decide) (by decide)];decide

end Go.Proofs.YtocebjbjnfammaaGreat
