import Derived.Test.YtocebjbjnfammaaGreatSG17
import Derived.Deep.RegionHeld3
import Derived.Deep.CutRange
import Derived.Deep.RegionWith
import Derived.Test.YtocebjbjnfammaaGreatSG5
import Derived.Test.YtocebjbjnfammaaGreatSG3
import Derived.Test.YtocebjbjnfammaaGreatSG1
set_option maxRecDepth 4096
set_option maxHeartbeats 16000000
namespace Go.Proofs.YtocebjbjnfammaaGreat
open Go.RowKit
def LstE (u v:LR_) (w:World) (e:Ending) (w':World):Prop:=∃(a:OA_) (n c:Nat) (b:OA_) (m d:Nat),e=.returned (.agg #[.slice a n c,.slice b m d])∧Rw w' a n c u∧Rw w' b m d v∧Below w.heap.size w w'
def LstEV (u v:LR_) (z:Value) (w:World) (e:Ending) (w':World):Prop:=∃(a:OA_) (n c:Nat) (b:OA_) (m d:Nat),e=.returned (.tuple #[.agg #[.slice a n c,.slice b m d],z])∧Rw w' a n c u∧Rw w' b m d v∧Below w.heap.size w w'
theorem LstE.right{u v U V:List Rat}(h:isF U V u v){w w':World}{e:Ending}(k:LstE u v w e w'):LstF U V w e w':=by
 obtain⟨a,n,c,b,m,d,h1,h2,h3,h4⟩:=k
 exact⟨a,n,c,u,b,m,d,v,h1,h2,h3,h,h4⟩
theorem LstEV.right{u v U V:List Rat}{z:Value}(h:isF U V u v){w w':World}{e:Ending}(k:LstEV u v z w e w'):LstFV U V z w e w':=by
 obtain⟨a,n,c,b,m,d,h1,h2,h3,h4⟩:=k
 exact⟨a,n,c,u,b,m,d,v,h1,h2,h3,h,h4⟩
theorem uj_(l:LR_):isF l [1] (ah_ l) [1]:=by
 have h1:Rf (ah_ l) [1]:=Rf.of_cop (cop_one _) p7_ (peq.refl _) (peq.refl _) (a9_ l) (by decide +kernel)
 exact h1.isF.of (ar_ l) (peq.refl _)
theorem Pv.lit2(w:World)(e:TypeId){s1 s2:Bool}{p q:Rat}{a1 b1 a2 b2:Option Addr}{n1 c1 m1 d1 n2 c2 m2 d2 N:Nat}{l1 k1 l2 k2:List Nat}(h1:Wd w a1 n1 c1 l1)(h2:Wd w b1 m1 d1 k1)(h3:Wd w a2 n2 c2 l2)(h4:Wd w b2 m2 d2 k2)(hn1:n1≤N)(hm1:m1≤N)(hn2:n2≤N)(hm2:m2≤N)(hp:qval s1 (val l1) (val k1)=p)(hq:qval s2 (val l2) (val k2)=q) :
 Pv (w.alloc (.cells #[.bool s1,.slice a1 n1 c1,.slice b1 m1 d1,.bool s2,.slice a2 n2 c2,.slice b2 m2 d2] e)) (some ⟨w.heap.size,0,none⟩) 2 2 [p,q] N:=by
 have hb:Below w.heap.size w (w.alloc (.cells #[.bool s1,.slice a1 n1 c1,.slice b1 m1 d1,.bool s2,.slice a2 n2 c2,.slice b2 m2 d2] e)):=aa_ _ _
 have hx:=ai_ w #[.bool s1,.slice a1 n1 c1,.slice b1 m1 d1,.bool s2,.slice a2 n2 c2,.slice b2 m2 d2] e
 refine ⟨[⟨s1,a1,n1,c1,l1,b1,m1,d1,k1⟩,⟨s2,a2,n2,c2,l2,b2,m2,d2,k2⟩],⟨rfl,Nat.le_refl _,by omega,fun h=>(by cases h),fun x hx=>?_,.inr ⟨w.heap.size,0,rfl,fun j hj=>?_⟩⟩,?_,fun x hx=>?_⟩
 ·simp only[List.mem_cons,List.not_mem_nil,or_false] at hx
  rcases hx with rfl | rfl
  ·exact⟨h1.later hb,h2.later hb⟩
  ·exact⟨h3.later hb,h4.later hb⟩
 ·match j,hj with
  | 0,_=>exact⟨af_ hx 0,af_ hx 1,af_ hx 2⟩
  | 1,_=>exact⟨af_ hx 3,af_ hx 4,af_ hx 5⟩
 ·show [qval s1 (val l1) (val k1),qval s2 (val l2) (val k2)]=_
  rw[hp,hq]
 ·simp only[List.mem_cons,List.not_mem_nil,or_false] at hx
  rcases hx with rfl | rfl
  ·exact⟨hn1,hm1⟩
  ·exact⟨hn2,hm2⟩
theorem qp_(S:PolySaid)(FS:FracSaid)(v1:Value)(p:Rat)(v2:Value)(q:Rat)(X:Nat)(w:World)(h1:Fr w v1 p X)(h2:Fr w v2 q X)(hX:X≤1900000000):Calls Tryz.prog 46 #[v1,v2] w (LstE (ah_ [p,q]) [1] w):=by
 obtain⟨s1,a1,n1,c1,l1,b1,m1,d1,k1,rfl,h11,h12,h13,h14,h15⟩:=h1
 obtain⟨s2,a2,n2,c2,l2,b2,m2,d2,k2,rfl,h21,h22,h23,h24,h25⟩:=h2
 obtain⟨z1,hz1⟩:∃q:Rat,((1:Int):Rat)=q:=⟨_,rfl⟩
 have hz11:([1]:LR_)=[z1]:=by rw[←hz1];rfl
 have HO1:∀w':World,Calls Tryz.prog 47 #[.int .i64 1] w' (LstQ z1 w'):=fun w'=>hz1▸FS.of 1 w' (by decide)
 rw[hz11]
 obtain⟨l,hl⟩:∃l,ah_ [p,q]=l:=⟨_,rfl⟩
 have HNO:∀(w':World) (a':OA_) (c':Nat),Pv w' a' 2 c' [p,q] X→Calls Tryz.prog 95 #[.slice a' 2 c'] w' (b8_ l w'):=fun w' a' c' g1=>hl▸norm_pv S g1 (by omega) hX
 rw[hl]
 have HB:=hd_ (ab_ (ab_ (aa_ w (.cells #[.bool s1,.slice a1 n1 c1,.slice b1 m1 d1] 44)) (aa_ _ (.cells #[.bool s2,.slice a2 n2 c2,.slice b2 m2 d2] 44))) (aa_ _ (.cells #[.slice none 0 0,.slice none 0 0] 35)))
 have X0:Hid ((((w.alloc (.cells #[.bool s1,.slice a1 n1 c1,.slice b1 m1 d1] 44)).alloc (.cells #[.bool s2,.slice a2 n2 c2,.slice b2 m2 d2] 44)).alloc (.cells #[.slice none 0 0,.slice none 0 0] 35)).heap[w.heap.size]? = some (.cells #[.bool s1,.slice a1 n1 c1,.slice b1 m1 d1] 44 (0,0))):=hd_ (ac_ (ac_ (ai_ w _ _) (aa_ _ (.cells #[.bool s2,.slice a2 n2 c2,.slice b2 m2 d2] 44))) (aa_ _ (.cells #[.slice none 0 0,.slice none 0 0] 35)))
 have X1:Hid ((((w.alloc (.cells #[.bool s1,.slice a1 n1 c1,.slice b1 m1 d1] 44)).alloc (.cells #[.bool s2,.slice a2 n2 c2,.slice b2 m2 d2] 44)).alloc (.cells #[.slice none 0 0,.slice none 0 0] 35)).heap[w.heap.size+1]? = some (.cells #[.bool s2,.slice a2 n2 c2,.slice b2 m2 d2] 44 (0,0))):=hd_ (ac_ (by have h9:=ai_ (w.alloc (.cells #[.bool s1,.slice a1 n1 c1,.slice b1 m1 d1] 44)) #[.bool s2,.slice a2 n2 c2,.slice b2 m2 d2] 44;rwa [al_] at h9) (aa_ _ (.cells #[.slice none 0 0,.slice none 0 0] 35)))
 have R0:Hid ((((w.alloc (.cells #[.bool s1,.slice a1 n1 c1,.slice b1 m1 d1] 44)).alloc (.cells #[.bool s2,.slice a2 n2 c2,.slice b2 m2 d2] 44)).alloc (.cells #[.slice none 0 0,.slice none 0 0] 35)).heap[w.heap.size+1+1]? = some (.cells #[.slice none 0 0,.slice none 0 0] 35 (0,0))):=hd_ (by have h9:=ai_ ((w.alloc (.cells #[.bool s1,.slice a1 n1 c1,.slice b1 m1 d1] 44)).alloc (.cells #[.bool s2,.slice a2 n2 c2,.slice b2 m2 d2] 44)) #[.slice none 0 0,.slice none 0 0] 35;rwa [al_,al_] at h9)
 have F1:=hd_ (h11.later HB.out)
 have F2:=hd_ (h12.later HB.out)
 have F3:=hd_ (h21.later HB.out)
 have F4:=hd_ (h22.later HB.out)
 have hli:=Pv.lit2 (((w.alloc (.cells #[.bool s1,.slice a1 n1 c1,.slice b1 m1 d1] 44)).alloc (.cells #[.bool s2,.slice a2 n2 c2,.slice b2 m2 d2] 44)).alloc (.cells #[.slice none 0 0,.slice none 0 0] 35)) 44 F1.out F2.out F3.out F4.out h13 h14 h23 h24 h15 h25
 rw[al_,al_,al_] at hli
 have HLI:=hd_ hli
 clear hli
 have ba:=aa_ (((w.alloc (.cells #[.bool s1,.slice a1 n1 c1,.slice b1 m1 d1] 44)).alloc (.cells #[.bool s2,.slice a2 n2 c2,.slice b2 m2 d2] 44)).alloc (.cells #[.slice none 0 0,.slice none 0 0] 35)) (.cells #[.bool s1,.slice a1 n1 c1,.slice b1 m1 d1,.bool s2,.slice a2 n2 c2,.slice b2 m2 d2] 44)
 obtain⟨x0,x1,x2,x3,x4,x5⟩:=bd_ X0.out X1.out
 clear h11 h12 h21 h22 h13 h14 h23 h24 h15 h25 hl hz1 hz11 F1 F2 F3 F4 hX
 go_enter Tryz.func46,Tryz.ntmps46
 unfold frV
 go_wp2_with fail
 refine (HNO _ _ _ HLI.out).mono ?_
 rintro e w1 ⟨a4,n4,c4,rfl,h4,bw⟩
 clear x0 x1 x2 x3 x4 x5
 replace HB:=hd_ (ab_ (ab_ HB.out ba) bw)
 replace R0:=hd_ (ac_ (ac_ R0.out ba) bw)
 have PP:=hd_ h4
 clear bw h4 ba HLI HNO X0 X1
 go_wp2_with fail
 refine (HO1 _).mono ?_
 rintro e w2 ⟨a5,n5,c5,b5,m5,d5,rfl,h5,g5,b⟩
 replace HB:=bt_ HB b
 replace R0:=bl_ R0 b
 have bb:=aa_ w2 (.cells #[.bool (zneg z1.num),.slice a5 n5 c5,.slice b5 m5 d5] 44)
 have P9:=hd_ ((PP.out.later b).later bb)
 have Q9:=hd_ (Rw.lit1 w2 44 h5 g5)
 replace HB:=bt_ HB bb
 replace R0:=bl_ R0 bb
 clear b bb h5 g5 HO1 PP
 unfold frV
 obtain⟨r0,r1⟩:=a0_ R0.out
 have e0:=ad_ R0.out 0
 have e1:=ad_ R0.out 1
 have R9:=hd_ (a4_ R0.out (.slice a4 n4 c4) (.slice (some ⟨w2.heap.size,0,none⟩) 1 1))
 replace P9:=hd_ (P9.out.boxed R0.out (.slice a4 n4 c4) (.slice (some ⟨w2.heap.size,0,none⟩) 1 1))
 replace Q9:=hd_ (Q9.out.boxed R0.out (.slice a4 n4 c4) (.slice (some ⟨w2.heap.size,0,none⟩) 1 1))
 have G9:=hd_ (an_ HB.out (show w.heap.size≤w.heap.size+1+1 by omega) (.slice a4 n4 c4) (.slice (some ⟨w2.heap.size,0,none⟩) 1 1))
 go_wp2
 refine bodyPost_ret (results_cell_row Tryz.results46 _ _ (w.heap.size+1+1) 35 #[.slice a4 n4 c4,.slice (some ⟨w2.heap.size,0,none⟩) 1 1] (0,0) _ rfl R9.out Tryz.underlying35 rfl (by kernel_rfl)) rfl ?_
 exact⟨a4,n4,c4,_,1,1,rfl,P9.out,Q9.out,G9.out⟩
theorem hj_(S:PolySaid)(FS:FracSaid)(v9:Value)(p:Rat)(X:Nat)(w:World)(h9:Fr w v9 p X)(hX:X≤1900000000)(hX2:2≤X):Calls Tryz.prog 28 #[v9] w (LstE (ah_ [p,0]) [1] w):=by
 obtain⟨s9,a9,n9,c9,l9,b9,m9,d9,k9,rfl,h91,h92,h93,h94,h95⟩:=h9
 obtain⟨z0,hz0⟩:∃q:Rat,((0:Int):Rat)=q:=⟨_,rfl⟩
 have hz00:(0:Rat)=z0:=by rw[←hz0];rfl
 have lz:qlen z0≤2:=by rw[←hz0];exact br_ (by decide)
 have HO0:∀w':World,Calls Tryz.prog 47 #[.int .i64 0] w' (LstQ z0 w'):=fun w'=>hz0▸FS.of 0 w' (by decide)
 have HX9:=hd_ h95
 rw[hz00]
 obtain⟨l,hl⟩:∃l,ah_ [p,z0]=l:=⟨_,rfl⟩
 obtain⟨ON,hON⟩:∃l:LR_,[1]=l:=⟨_,rfl⟩
 have HLI:∀(w':World) (a2:OA_) (n2 c2:Nat) (b2:OA_) (m2 d2:Nat),Wd w' a9 n9 c9 l9→Wd w' b9 m9 d9 k9→Wd w' a2 n2 c2 (dg z0.num.natAbs)→Wd w' b2 m2 d2 (dg z0.den)→Calls Tryz.prog 46 #[.agg #[.bool s9,.slice a9 n9 c9,.slice b9 m9 d9],.agg #[.bool (zneg z0.num),.slice a2 n2 c2,.slice b2 m2 d2]] w' (LstE l ON w'):=fun w' a2 n2 c2 b2 m2 d2 g1 g2 g3 g4=>hON▸hl▸qp_ S FS _ p _ z0 X w' (Fr.of g1 g2 h93 h94 HX9.out) (Fr.right g3 g4 (by have:=g3.len;have:=a8_ z0;omega) (by have:=g4.len;have:=a7_ z0;omega)) hX
 rw[hl,hON]
 have HB:=hd_ (ab_ (aa_ w (.cells #[.bool s9,.slice a9 n9 c9,.slice b9 m9 d9] 44)) (aa_ _ (.cells #[.slice none 0 0,.slice none 0 0] 35)))
 have X0:Hid (((w.alloc (.cells #[.bool s9,.slice a9 n9 c9,.slice b9 m9 d9] 44)).alloc (.cells #[.slice none 0 0,.slice none 0 0] 35)).heap[w.heap.size]? = some (.cells #[.bool s9,.slice a9 n9 c9,.slice b9 m9 d9] 44 (0,0))):=hd_ (ac_ (ai_ w _ _) (aa_ _ (.cells #[.slice none 0 0,.slice none 0 0] 35)))
 have R0:Hid (((w.alloc (.cells #[.bool s9,.slice a9 n9 c9,.slice b9 m9 d9] 44)).alloc (.cells #[.slice none 0 0,.slice none 0 0] 35)).heap[w.heap.size+1]? = some (.cells #[.slice none 0 0,.slice none 0 0] 35 (0,0))):=hd_ (by have h9:=ai_ (w.alloc (.cells #[.bool s9,.slice a9 n9 c9,.slice b9 m9 d9] 44)) #[.slice none 0 0,.slice none 0 0] 35;rwa [al_] at h9)
 have F1:=hd_ (h91.later HB.out)
 have F2:=hd_ (h92.later HB.out)
 clear h91 h92 h93 h94 h95 hz0 hz00 lz hl hON hX hX2 HX9
 go_enter Tryz.func28,Tryz.ntmps28
 unfold frV
 go_wp2
 generalize ((w.alloc (.cells #[.bool s9,.slice a9 n9 c9,.slice b9 m9 d9] 44)).alloc (.cells #[.slice none 0 0,.slice none 0 0] 35))=W at *
 replace HB:=bt_ HB (dw_ W)
 replace X0:Hid (W.drew.heap[w.heap.size]? = _):=hd_ X0.out
 replace R0:Hid (W.drew.heap[w.heap.size+1]? = some (.cells #[.slice none 0 0,.slice none 0 0] 35 (0,0))):=hd_ R0.out
 replace F1:=F1.l_ (dw_ W)
 replace F2:=F2.l_ (dw_ W)
 have pSn:=as_ X0.out
 go_region_held3 (fun w'=>w'.cell? ⟨w.heap.size,0,none⟩=some (.bool s9)∧w'.cell? ⟨w.heap.size,1,none⟩=some (.slice a9 n9 c9)∧w'.cell? ⟨w.heap.size,2,none⟩=some (.slice b9 m9 d9)) (first | exact pSn | exact pSb _ _)
  (first
  | (go_at_call 47;(first
    | (refine (HO0 _).mono ?_;rintro e wp1 ⟨a21,n21,c21,b21,m21,d21,rfl,h21,g21,b⟩;replace HB:=bt_ HB b;replace X0:=bl_ X0 b;replace R0:=bl_ R0 b;replace F1:=F1.l_ b;replace F2:=F2.l_ b;have Z1:=hd_ h21;have Z2:=hd_ g21;clear h21 g21;unfold frV;clear b;clear pSn;have pSn:=as_ X0.out;have pM1:=True.intro)))
  | (go_at_call 46;(first
    | (have pm1:=pM1;refine (HLI _ _ _ _ _ _ _ F1.out F2.out Z1.out Z2.out).mono ?_;rintro e wp2 ⟨a23,n23,c23,b23,m23,d23,rfl,h23,g23,b⟩;replace HB:=bt_ HB b;replace X0:=bl_ X0 b;replace R0:=bl_ R0 b;replace F1:=F1.l_ b;replace F2:=F2.l_ b;clear Z1;clear Z2;have P9:=hd_ h23;have Q9:=hd_ g23;clear h23 g23;obtain⟨r0,r1⟩:=a0_ R0.out;have e0:=ad_ R0.out 0;have e1:=ad_ R0.out 1;have pSb:=fun u v=>as_ (bh_ (g:=w.heap.size+1) X0.out (by omega) u v);clear b;clear pSn;have pSn:=as_ X0.out;clear pM1 pm1;have pM2:=True.intro))))
 have R9:=hd_ (a4_ R0.out (.slice a23 n23 c23) (.slice b23 m23 d23))
 replace P9:=hd_ (P9.out.boxed R0.out (.slice a23 n23 c23) (.slice b23 m23 d23))
 replace Q9:=hd_ (Q9.out.boxed R0.out (.slice a23 n23 c23) (.slice b23 m23 d23))
 have G9:=hd_ (an_ HB.out (show w.heap.size≤w.heap.size+1 by omega) (.slice a23 n23 c23) (.slice b23 m23 d23))
 go_wp2
 refine bodyPost_ret (results_cell_row Tryz.results28 _ _ (w.heap.size+1) 35 #[.slice a23 n23 c23,.slice b23 m23 d23] (0,0) _ rfl R9.out Tryz.underlying35 rfl (by kernel_rfl)) rfl ?_
 exact⟨a23,n23,c23,b23,m23,d23,rfl,P9.out,Q9.out,G9.out⟩
theorem lj_(S:PolySaid)(a:OA_)(n c:Nat)(b:OA_)(m d:Nat)(U V:LR_)(N:Nat)(w:World)(hU:Pv w a n c U N)(hV:Pv w b m d V N)(hn:n≤50)(hm:m≤50)(hN:N≤1900000000):Calls Tryz.prog 23 #[.agg #[.slice a n c,.slice b m d]] w (bi_ (.bool (decide (plen U=0∨plen V=0))) w):=by
 have HDU:∀w':World,Pv w' a n c U N→Calls Tryz.prog 61 #[.slice a n c] w' (bi_ (.int .i64 ((plen U:Int) - 1)) w'):=fun w' g1=>jo_ S g1 (by omega) hN
 have HDV:∀w':World,Pv w' b m d V N→Calls Tryz.prog 61 #[.slice b m d] w' (bi_ (.int .i64 ((plen V:Int) - 1)) w'):=fun w' g1=>jo_ S g1 (by omega) hN
 have HB:=hd_ (aa_ w (.cells #[.slice a n c,.slice b m d] 35))
 have X0:Hid ((w.alloc (.cells #[.slice a n c,.slice b m d] 35)).heap[w.heap.size]? = some (.cells #[.slice a n c,.slice b m d] 35 (0,0))):=hd_ (ai_ w _ _)
 have A1:=hd_ (hU.later HB.out)
 have B1:=hd_ (hV.later HB.out)
 obtain⟨i,hi⟩:∃i:Int,(plen U:Int) - 1=i:=⟨_,rfl⟩
 obtain⟨j,hj⟩:∃i:Int,(plen V:Int) - 1=i:=⟨_,rfl⟩
 rw[hi] at HDU
 rw[hj] at HDV
 obtain⟨x0,x1⟩:=a0_ X0.out
 by_cases h0:plen U=0
 ·have hi0:i < 0:=by omega
  rw[decide_eq_true (.inl h0:plen U=0∨plen V=0)]
  clear hU hV hi hj h0
  go_enter Tryz.func23,Tryz.ntmps23
  go_wp2_with fail
  refine (HDU _ A1.out).mono ?_
  rintro e w1 ⟨rfl,bw⟩
  replace HB:=bt_ HB bw
  clear bw x0 x1 HDU HDV
  go_wp2
  go_ret
  exact⟨rfl,HB.out⟩
 ·have hi0:¬i < 0:=by omega
  have hbo:decide (plen U=0∨plen V=0)=decide (j < 0):=decide_eq_decide.2 ⟨fun h=>by omega,fun h=>.inr (by omega)⟩
  rw[hbo]
  clear hU hV hi hj h0 hbo
  go_enter Tryz.func23,Tryz.ntmps23
  go_wp2_with fail
  refine (HDU _ A1.out).mono ?_
  rintro e w1 ⟨rfl,bw⟩
  replace HB:=bt_ HB bw
  replace X0:=bl_ X0 bw
  replace B1:=B1.l_ bw
  clear bw x0 x1 HDU
  obtain⟨x0,x1⟩:=a0_ X0.out
  go_wp2_with fail
  refine (HDV _ B1.out).mono ?_
  rintro e w2 ⟨rfl,bw⟩
  replace HB:=bt_ HB bw
  clear bw x0 x1 HDV
  go_wp2
  go_ret
  exact⟨by show Ending.returned (Value.bool (decide (i < 0) || decide (j < 0)))=_;rw[decide_eq_false (show ¬i < 0 by omega),Bool.false_or],HB.out⟩
theorem ui_{U V x y g:List Rat}{h K:Nat}(p:PartP U V h K x y g)(hV:plen V≠0):plen y≠0∧co y (plen y - 1)=co V (plen V - 1):=by
 have hg:=p.gcd.monic (p.g0 hV)
 have hy:plen y≠0:=fun e=>hV (by rw[ao_ p.dy,ao_ (a6_ (c2_ e) (peq.refl g))];rfl)
 have h0:=hg.1
 obtain⟨e1,e2⟩:=fp_ (a:=y) (b:=g) (m:=plen y - 1) (n:=plen g - 1) (by omega) (by omega)
 refine ⟨hy,?_⟩
 rw[hg.2,Rat.mul_one] at e2
 rw[ao_ p.dy,p.dy,e1,Nat.add_sub_cancel]
 exact e2.symm
theorem part_new{U V u v x y g:List Rat}{h s K:Nat}{t per:Rat}(p:PartP U V h K x y g)(hf:isF U V u v)(hz:Fz U V h s)(hV:plen V≠0)(h1:1≤h)(h2:h≤1000000)(ht:co y (plen y - 1)=t)(hp:1 / t=per) :
 t≠0∧qlen t≤s+2∧qlen per≤s+2∧ah_ (ag_ per x)=u∧ah_ (ag_ per y)=v∧(∀q∈x,qlen q≤(s+1) * (2 * h)+s+5)∧∀q∈y,qlen q≤(s+1) * (2 * h)+s+5:=by
 obtain⟨hy,he⟩:=ui_ p hV
 have hy9:=ec_ (a:=y) (n:=plen y - 1) (by omega)
 have ht0:t≠0:=by rw[←ht];exact hy9
 have htl:qlen t≤s+2:=by rw[←ht,he];exact cr_ (by omega) hz.swap.qlen _
 have hpl:qlen per≤s+2:=by
  rw[←hp,Rat.div_def,Rat.one_mul]
  exact Nat.le_trans (hx_ _) htl
 obtain⟨e1,e2⟩:=hf.same (si_ (c:=per) p.gcd hV p.dx p.dy (by rw[ht];exact hp.symm))
 have hR:=hz.right hf h1 h2
 have hpt:per * t=1:=by rw[←hp];exact Rat.div_mul_cancel ht0
 have hback:∀z w:LR_,ah_ (ag_ per z)=w→(∀q∈w,qlen q≤(s+1) * (2 * h)+2)→∀q∈z,qlen q≤(s+1) * (2 * h)+s+5:=fun z w hw hq=>cg_ fun i=>by
  have e3:co z i=t * co w i:=by
   rw[←hw,e5_,aj_]
   have:t * (per * co z i)=per * t * co z i:=by grind
   rw[this,hpt,Rat.one_mul]
  have g1:=cu_ t (co w i)
  have g2:=cr_ (A:=(s+1) * (2 * h)+2) (by omega) hq i
  rw[e3];omega
 exact⟨ht0,htl,hpl,e1,e2,hback x u e1 hR.qlen,hback y v e2 hR.swap.qlen⟩
theorem mp_{h s:Nat}(hk:Fok h s):(s+1) * (2 * h)+s+6≤60000000:=by
 obtain⟨h1,h2,h3,h4,h5⟩:=hk
 have g1:32 * ((s+1) * (2 * h+1)+5)≤(4 * h+24) * ((s+1) * (2 * h+1)+5):=Nat.mul_le_mul_right _ (by omega)
 have g2:(s+1) * (2 * h+1)=(s+1) * (2 * h)+(s+1):=by rw[Nat.mul_add,Nat.mul_one]
 omega
theorem r4_(S:PolySaid)(FS:FracSaid)(a:OA_)(n c:Nat)(b:OA_)(m d:Nat)(V:LR_)(w:World)(hV:Pv w b m d V 1900000000)(hm:m≤50)(hV0:plen V=0):Calls Tryz.prog 13 #[.slice a n c,.slice b m d] w (LstEV [] [1] (.bool false) w):=by
 have HDV:∀w':World,Pv w' b m d V 1900000000→Calls Tryz.prog 61 #[.slice b m d] w' (bi_ (.int .i64 (-1)) w'):=fun w' g1=>by
  have h9:=jo_ S g1 (by omega) (Nat.le_refl _)
  rwa [hV0] at h9
 obtain⟨z0,hz0⟩:∃q:Rat,((0:Int):Rat)=q:=⟨_,rfl⟩
 have hz00:z0=0:=by rw[←hz0];rfl
 have lz:qlen z0≤2:=by rw[←hz0];exact br_ (by decide)
 have HO0:∀w':World,Calls Tryz.prog 47 #[.int .i64 0] w' (LstQ z0 w'):=fun w'=>hz0▸FS.of 0 w' (by decide)
 have HOF:∀(w':World) (a2:OA_) (n2 c2:Nat) (b2:OA_) (m2 d2:Nat),Wd w' a2 n2 c2 (dg z0.num.natAbs)→Wd w' b2 m2 d2 (dg z0.den)→Calls Tryz.prog 28 #[.agg #[.bool (zneg z0.num),.slice a2 n2 c2,.slice b2 m2 d2]] w' (LstE [] [1] w'):=fun w' a2 n2 c2 b2 m2 d2 g1 g2=>by
  have h9:=hj_ S FS _ z0 2 w' (Fr.right g1 g2 (by have:=g1.len;have:=a8_ z0;omega) (by have:=g2.len;have:=a7_ z0;omega)) (by decide) (Nat.le_refl 2)
  rwa [show ah_ [z0,0]=[] by rw[hz00];decide +kernel] at h9
 have HB:=hd_ (aa_ w (.cells #[.slice none 0 0,.slice none 0 0] 35))
 have R0:Hid ((w.alloc (.cells #[.slice none 0 0,.slice none 0 0] 35)).heap[w.heap.size]? = some (.cells #[.slice none 0 0,.slice none 0 0] 35 (0,0))):=hd_ (ai_ w _ _)
 have B1:=hd_ (hV.later HB.out)
 clear hV hV0 hz0 hz00 lz hm
 go_enter Tryz.func13,Tryz.ntmps13
 go_wp2_with fail
 refine (HDV _ B1.out).mono ?_
 rintro e w1 ⟨rfl,bw⟩
 replace HB:=bt_ HB bw
 replace R0:=bl_ R0 bw
 clear bw B1 HDV
 go_wp2_with fail
 refine (HO0 _).mono ?_
 rintro e w2 ⟨a5,n5,c5,b5,m5,d5,rfl,h5,g5,b⟩
 replace HB:=bt_ HB b
 replace R0:=bl_ R0 b
 have Z1:=hd_ h5
 have Z2:=hd_ g5
 clear h5 g5 b HO0
 unfold frV
 go_wp2_with fail
 refine (HOF _ _ _ _ _ _ _ Z1.out Z2.out).mono ?_
 rintro e w3 ⟨a6,n6,c6,b6,m6,d6,rfl,h6,g6,b⟩
 replace HB:=bt_ HB b
 replace R0:=bl_ R0 b
 have P9:=hd_ h6
 have Q9:=hd_ g6
 clear h6 g6 b HOF Z1 Z2
 obtain⟨r0,r1⟩:=a0_ R0.out
 have e0:=ad_ R0.out 0
 have e1:=ad_ R0.out 1
 have R9:=hd_ (a4_ R0.out (.slice a6 n6 c6) (.slice b6 m6 d6))
 replace P9:=hd_ (P9.out.boxed R0.out (.slice a6 n6 c6) (.slice b6 m6 d6))
 replace Q9:=hd_ (Q9.out.boxed R0.out (.slice a6 n6 c6) (.slice b6 m6 d6))
 have G9:=hd_ (an_ HB.out (show w.heap.size≤w.heap.size by omega) (.slice a6 n6 c6) (.slice b6 m6 d6))
 go_wp2
 refine bodyPost_ret (bb_ Tryz.results13 _ _ (w.heap.size) 35 #[.slice a6 n6 c6,.slice b6 m6 d6] (0,0) _ rfl R9.out Tryz.underlying35 rfl (by kernel_rfl)) rfl ?_
 exact⟨a6,n6,c6,b6,m6,d6,rfl,P9.out,Q9.out,G9.out⟩
theorem qo_(S:PolySaid)(FS:FracSaid)(a:OA_)(n c:Nat)(U:LR_)(b:OA_)(m d:Nat)(V:LR_)(u v:LR_)(h s:Nat)(w:World)(hU:Pv w a n c U 1900000000)(hV:Pv w b m d V 1900000000)(hf:isF U V u v)(hz:Fz U V h s)(hk:Fok h s)(hV0:plen V≠0):Calls Tryz.prog 13 #[.slice a n c,.slice b m d] w (LstEV u v (.bool true) w):=by
 have hh50:h≤50:=hk.2.1
 have hh2:2≤h:=hk.1
 have hfew:=mp_ hk
 have HDV:∀w':World,Pv w' b m d V 1900000000→Calls Tryz.prog 61 #[.slice b m d] w' (bi_ (.int .i64 ((plen V:Int) - 1)) w'):=fun w' g1=>jo_ S g1 (by rw[←g1.len];have:=hz.lv;omega) (Nat.le_refl _)
 have HPT:∀w':World,Pv w' a n c U 1900000000→Pv w' b m d V 1900000000→Calls Tryz.prog 62 #[.slice a n c,.slice b m d] w' (l4_ U V h ((s+1) * (2 * h+1)+2) w'):=fun w' g1 g2=>gv_ S a n c U b m d V h s w' g1 g2 hz hk.2.2.2 hV0
 obtain⟨i,hi⟩:∃i:Int,(plen V:Int) - 1=i:=⟨_,rfl⟩
 rw[hi] at HDV
 have hi0:¬i < 0:=by omega
 obtain⟨z1,hz9⟩:∃z:Rat,((1:Int):Rat)=z:=⟨_,rfl⟩
 have HO1:∀w':World,Calls Tryz.prog 47 #[.int .i64 1] w' (LstQ z1 w'):=fun w'=>hz9▸FS.of 1 w' (by decide)
 have HZL:Hid (qlen z1≤2):=hd_ (hz9▸br_ (by decide))
 have HZ1:Hid (z1=1):=hd_ (by rw[←hz9];rfl)
 have HF:=hd_ (And.intro hf (And.intro hz (And.intro hV0 (And.intro hh2 (And.intro hh50 hfew)))))
 generalize (s+1) * (2 * h+1)+2=K at HPT
 have HB:=hd_ (aa_ w (.cells #[.slice none 0 0,.slice none 0 0] 35))
 have R0:Hid ((w.alloc (.cells #[.slice none 0 0,.slice none 0 0] 35)).heap[w.heap.size]? = some (.cells #[.slice none 0 0,.slice none 0 0] 35 (0,0))):=hd_ (ai_ w _ _)
 have A1:=hd_ (hU.later HB.out)
 have B1:=hd_ (hV.later HB.out)
 clear hU hV hf hz hk hV0 hh50 hh2 hfew hi hz9
 go_enter Tryz.func13,Tryz.ntmps13
 go_wp2_with fail
 refine (HDV _ B1.out).mono ?_
 rintro e w1 ⟨rfl,bw⟩
 replace HB:=bt_ HB bw
 replace R0:=bl_ R0 bw
 replace A1:=A1.l_ bw
 replace B1:=B1.l_ bw
 clear bw HDV
 go_wp2_with fail
 refine (HPT _ A1.out B1.out).mono ?_
 rintro e9 wr ⟨a1,n1,c1,x,a2,n2,c2,y,a3,n3,c3,g,rfl,hx1,hy1,hg1,pp,bw⟩
 replace HB:=bt_ HB bw
 replace R0:=bl_ R0 bw
 obtain⟨hf,hz,hV0,hh2,hh50,hfew⟩:=HF.out
 have hy0:=(ui_ pp hV0).1
 have hyl:plen y=n2:=by rw[ay_ pp.ny,hy1.len]
 have hdx:=pdvd.len (a:=V) (b:=y) ⟨g,pp.dy.trans (lc_ _ _)⟩ hV0
 have hVl:=bc_ V
 have hn2:n2≤50:=by have:=hz.lv;omega
 have hn1:n1≤50:=by
  by_cases hx0:plen x=0
  ·have:=hx1.len;rw[ay_ pp.nx] at hx0;omega
  ·have hg0:=pp.g0 hV0
   have h8:=ao_ pp.dx
   rw[dx_ hx0 hg0,ay_ pp.nx,hx1.len] at h8
   have:=bc_ U
   have:=hz.lu
   omega
 obtain⟨e,rfl⟩:∃e,n2=e+1:=⟨n2 - 1,by omega⟩
 obtain⟨tp,htp⟩:∃t,y.getD e 0=t:=⟨_,rfl⟩
 obtain⟨per,hper⟩:∃p,1 / tp=p:=⟨_,rfl⟩
 obtain⟨htop,htl,hpl,hu,hv,hxq,hyq⟩:=part_new pp hf hz hV0 (by omega) (by omega) (show co y (plen y - 1)=tp by rw[hyl,Nat.add_sub_cancel];exact htp) hper
 obtain⟨bt,offt,hbt,at_,nt,ct,bu,mu,du,ht9,htA,htD⟩:=hy1.at (j:=e) (by omega)
 subst hbt
 rw[htp] at ht9 htA htD
 have lnt:nt≤2000000000:=by rw[←htA.len];exact Nat.le_trans (a8_ _) (by omega)
 have lmt:mu≤2000000000:=by rw[←htD.len];exact Nat.le_trans (a7_ _) (by omega)
 have HQ1:∀(w':World) (a4:OA_) (n4 c4:Nat) (b4:OA_) (m4 d4:Nat),Wd w' a4 n4 c4 (dg z1.num.natAbs)→Wd w' b4 m4 d4 (dg z1.den)→Below wr.heap.size wr w'→Calls Tryz.prog 63 #[.agg #[.bool (zneg z1.num),.slice a4 n4 c4,.slice b4 m4 d4],.agg #[.bool (zneg tp.num),.slice at_ nt ct,.slice bu mu du]] w' (gp_ per (.bool true) w'):=fun w' a4 n4 c4 b4 m4 d4 k1 k2 k3=>by
  have h8:=FS.quo (frV (zneg z1.num) a4 n4 c4 b4 m4 d4) (frV (zneg tp.num) at_ nt ct bu mu du) z1 tp w' (Fr.right k1 k2 (by rw[←k1.len];exact Nat.le_trans (a8_ _) (Nat.le_trans HZL.out (by decide))) (by rw[←k2.len];exact Nat.le_trans (a7_ _) (Nat.le_trans HZL.out (by decide)))) (Fr.right (htA.later k3) (htD.later k3) (by omega) (by omega))
  rw[decide_eq_true htop,HZ1.out,hper] at h8
  rw[HZ1.out]
  exact h8
 have HSX:∀(w':World) (v':Value),Fr w' v' per 900000000→Rw w' a1 n1 c1 x→Calls Tryz.prog 64 #[v',.slice a1 n1 c1] w' (b8_ u w'):=fun w' v' k1 k2=>hu▸po_ S k1 (Pv.right k2 hxq) (by omega) (by omega)
 have HSY:∀(w':World) (v':Value),Fr w' v' per 900000000→Rw w' (some ⟨bt,offt,none⟩) (e+1) c2 y→Calls Tryz.prog 64 #[v',.slice (some ⟨bt,offt,none⟩) (e+1) c2] w' (b8_ v w'):=fun w' v' k1 k2=>hv▸po_ S k1 (Pv.right k2 hyq) (by omega) (by omega)
 have SU:=hd_ ht9
 have HPL9:Hid (qlen per≤800000000):=hd_ (by omega)
 have XR:=hd_ hx1
 have YR:=hd_ hy1
 have hbd2:=hy1.bound
 have hzz:((e+1:Nat):Int) - 1=(e:Int):=by omega
 have hze:(e:Int) < (e:Int)+1:=by omega
 have hz1:(0:Int)≤(e:Int):=by omega
 have hwe:IntKind.i64.wrap (e:Int)=(e:Int):=by rw[IntKind.wrap_i64];omega
 clear hx1 hy1 hg1 pp bw hf hz hV0 hh2 hh50 hfew hy0 hyl hdx hVl hn2 hn1 htp hper htop htl hpl hu hv hxq hyq ht9 HF A1 B1 HPT
 go_upto_region 4 with fail
 go_cut [6,7] from 20 to 30 (fun cv ov wx=>∃(g:Nat) (a5:OA_) (n5 c5:Nat) (b5:OA_) (m5 d5:Nat),cv=.pointer (some ⟨g,0,none⟩)∧ov=.bool true∧Hid (wx.heap[g]? = some (.cells #[.bool (zneg per.num),.slice a5 n5 c5,.slice b5 m5 d5] 44 (0,0)))∧Hid (Wd wx a5 n5 c5 (dg per.num.natAbs))∧Hid (Wd wx b5 m5 d5 (dg per.den))∧Hid (Below wr.heap.size wr wx))
 case first=>
  obtain⟨s0,s1,s2⟩:=aq_ SU.out (Below.refl wr.heap.size wr)
  go_wp2
  clear s0 s1 s2
  have G1:Below wr.heap.size wr wr.drew:=(Below.refl _ _).drew
  have G2:∀o,Below wr.heap.size wr (wr.alloc o).drew:=fun o=>(aa_ wr o).drew
  have qS:=aq_ SU.out G1
  have qA:=fun o=>aq_ SU.out (G2 o)
  go_region_held3 (fun w'=>w'.cell? ⟨bt,offt+e * 3,none⟩=some (.bool (zneg tp.num))∧w'.cell? ⟨bt,offt+e * 3+1,none⟩=some (.slice at_ nt ct)∧w'.cell? ⟨bt,offt+e * 3+2,none⟩=some (.slice bu mu du)) (first | with_reducible exact qS | with_reducible exact qA _ | with_reducible exact qC)
   (first
   | (go_at_call 47;refine (HO1 _).mono ?_;rintro ed w4 ⟨a4,n4,c4,b4,m4,d4,rfl,h4,g4,bw⟩;unfold frV;(first
     | (have bw1:Below wr.drew.heap.size wr.drew w4:=(by with_reducible exact bw);have BB:=hd_ (ab_ G1 bw1);have A4:=hd_ h4;have D4:=hd_ g4;have M1:=True.intro;clear h4 g4 bw bw1 qS qA;have qS:=aq_ SU.out BB.out;have qA:=fun o=>aq_ SU.out (ab_ BB.out (aa_ w4 o)))
     | (have bw1:Below (wr.alloc (.cells #[.bool false,.slice none 0 0,.slice none 0 0] 44)).drew.heap.size (wr.alloc (.cells #[.bool false,.slice none 0 0,.slice none 0 0] 44)).drew w4:=(by with_reducible exact bw);have BB:=hd_ (ab_ (G2 _) bw1);have Z4:=hd_ (ac_ (w:=(wr.alloc (.cells #[.bool false,.slice none 0 0,.slice none 0 0] 44)).drew) (ai_ wr #[.bool false,.slice none 0 0,.slice none 0 0] 44) bw1);have A4:=hd_ h4;have D4:=hd_ g4;clear h4 g4 bw bw1 qS qA;have qS:=aq_ SU.out BB.out;have qA:=fun o=>aq_ SU.out (ab_ BB.out (aa_ w4 o)))))
   | (go_at_call 63;(first
     | (have Y4:=Z4;(with_reducible refine (HQ1 w4 _ _ _ _ _ _ A4.out D4.out BB.out).mono ?_);rintro ed w5 ⟨a5,n5,c5,b5,m5,d5,rfl,h5,g5,bw⟩;have BC:=hd_ (ab_ BB.out bw);have Z5:=hd_ (ac_ Z4.out bw);have hzb:wr.heap.size≤wr.heap.size:=Nat.le_refl _;have A5:=hd_ h5;have D5:=hd_ g5;clear h5 g5 bw Y4 qS qA;unfold frV;obtain⟨z0,z1,z2⟩:=as_ Z5.out;have f0:=ad_ Z5.out 0;have f1:=ad_ Z5.out 1;have f2:=ad_ Z5.out 2;have qS:=aq_ SU.out BC.out;have qA:=fun o=>aq_ SU.out (ab_ BC.out (aa_ w5 o));have qC:=aq_ SU.out (az_ BC.out hzb (.bool (zneg per.num)) (.slice a5 n5 c5) (.slice b5 m5 d5)))
     | ((with_reducible refine (HQ1 w4 _ _ _ _ _ _ A4.out D4.out BB.out).mono ?_);rintro ed w5 ⟨a5,n5,c5,b5,m5,d5,rfl,h5,g5,bw⟩;have BC:=hd_ (ab_ BB.out bw);have A5:=hd_ h5;have D5:=hd_ g5;clear h5 g5 bw qS qA;unfold frV;have qS:=aq_ SU.out BC.out;have qA:=fun o=>aq_ SU.out (ab_ BC.out (aa_ w5 o)))
     | (have ba:=aa_ w4 (.cells #[.bool false,.slice none 0 0,.slice none 0 0] 44);(with_reducible refine (HQ1 (w4.alloc (.cells #[.bool false,.slice none 0 0,.slice none 0 0] 44)) _ _ _ _ _ _ (A4.out.later ba) (D4.out.later ba) (ab_ BB.out ba)).mono ?_);rintro ed w5 ⟨a5,n5,c5,b5,m5,d5,rfl,h5,g5,bw⟩;have BC:=hd_ (ab_ (ab_ BB.out ba) bw);have Z5:=hd_ (ac_ (ai_ w4 #[.bool false,.slice none 0 0,.slice none 0 0] 44) bw);have hzb:wr.heap.size≤w4.heap.size:=BB.out.size;have A5:=hd_ h5;have D5:=hd_ g5;clear h5 g5 bw ba qS qA;unfold frV;obtain⟨z0,z1,z2⟩:=as_ Z5.out;have f0:=ad_ Z5.out 0;have f1:=ad_ Z5.out 1;have f2:=ad_ Z5.out 2;have qS:=aq_ SU.out BC.out;have qA:=fun o=>aq_ SU.out (ab_ BC.out (aa_ w5 o));have qC:=aq_ SU.out (az_ BC.out hzb (.bool (zneg per.num)) (.slice a5 n5 c5) (.slice b5 m5 d5))))))
  all_goals (
   go_wp2
   go_meet
   (first
     | exact⟨_,a5,n5,c5,b5,m5,d5,rfl,rfl,hd_ (bm_ Z5.out (.bool (zneg per.num)) (.slice a5 n5 c5) (.slice b5 m5 d5)),hd_ (A5.out.stored3 Z5.out (zneg per.num) a5 n5 c5 (.slice b5 m5 d5)),hd_ (D5.out.stored3 Z5.out (zneg per.num) a5 n5 c5 (.slice b5 m5 d5)),hd_ (az_ BC.out hzb (.bool (zneg per.num)) (.slice a5 n5 c5) (.slice b5 m5 d5))⟩
     | exact⟨w5.heap.size,a5,n5,c5,b5,m5,d5,rfl,rfl,hd_ (ai_ w5 _ 44),hd_ (A5.out.later (aa_ w5 _)),hd_ (D5.out.later (aa_ w5 _)),hd_ (ab_ BC.out (aa_ w5 _))⟩))
 case rest=>
  obtain⟨g9,a9,n9,c9,b9,m9,d9,rfl,rfl,PB,PA,PD,HBc⟩:=hcut
  have hne:g9≠w.heap.size:=fun e9=>by
   have h1:=PB.out
   rw[e9,(ac_ R0.out HBc.out)] at h1
   simp at h1
  replace HB:=hd_ (ab_ HB.out HBc.out)
  replace R0:=hd_ (ac_ R0.out HBc.out)
  replace XR:=hd_ (XR.out.later HBc.out)
  replace YR:=hd_ (YR.out.later HBc.out)
  have ln9:n9≤900000000:=by rw[←PA.out.len];exact Nat.le_trans (a8_ _) (Nat.le_trans HPL9.out (by decide))
  have lm9:m9≤900000000:=by rw[←PD.out.len];exact Nat.le_trans (a7_ _) (Nat.le_trans HPL9.out (by decide))
  clear HBc SU HQ1 HO1 HZL HZ1 HPL9
  go_wp2
  replace HB:=bt_ HB (dw_ wc)
  replace PB:Hid (wc.drew.heap[g9]? = _):=hd_ PB.out
  replace R0:Hid (wc.drew.heap[w.heap.size]? = some (.cells #[.slice none 0 0,.slice none 0 0] 35 (0,0))):=hd_ R0.out
  replace XR:=XR.l_ (dw_ wc)
  replace YR:=YR.l_ (dw_ wc)
  replace PA:=PA.l_ (dw_ wc)
  replace PD:=PD.l_ (dw_ wc)
  have pSn:=as_ PB.out
  go_region_held3 (fun w'=>w'.cell? ⟨g9,0,none⟩=some (.bool (zneg per.num))∧w'.cell? ⟨g9,1,none⟩=some (.slice a9 n9 c9)∧w'.cell? ⟨g9,2,none⟩=some (.slice b9 m9 d9)) (first | exact pSn | exact pSb _ _)
   (first
   | (go_at_call 64;(first
     | (have pm1:=pM1;refine (HSY _ _ (Fr.right PA.out PD.out ln9 lm9) YR.out).mono ?_;rintro e wp2 ⟨a22,n22,c22,rfl,h22,b⟩;replace HB:=bt_ HB b;replace PB:=bl_ PB b;replace R0:=bl_ R0 b;replace XR:=XR.l_ b;replace YR:=YR.l_ b;replace PA:=PA.l_ b;replace PD:=PD.l_ b;replace P9:=P9.l_ b;have Q9:=hd_ h22;clear h22;obtain⟨r0,r1⟩:=a0_ R0.out;have e0:=ad_ R0.out 0;have e1:=ad_ R0.out 1;have pSb:=fun u v=>as_ (bh_ (g:=w.heap.size) PB.out hne u v);clear b;clear pSn;have pSn:=as_ PB.out;clear pM1 pm1;have pM2:=True.intro)
     | (refine (HSX _ _ (Fr.right PA.out PD.out ln9 lm9) XR.out).mono ?_;rintro e wp1 ⟨a21,n21,c21,rfl,h21,b⟩;replace HB:=bt_ HB b;replace PB:=bl_ PB b;replace R0:=bl_ R0 b;replace XR:=XR.l_ b;replace YR:=YR.l_ b;replace PA:=PA.l_ b;replace PD:=PD.l_ b;have P9:=hd_ h21;clear h21;clear b;clear pSn;have pSn:=as_ PB.out;have pM1:=True.intro))))
  have R9:=hd_ (a4_ R0.out (.slice a21 n21 c21) (.slice a22 n22 c22))
  replace P9:=hd_ (P9.out.boxed R0.out (.slice a21 n21 c21) (.slice a22 n22 c22))
  replace Q9:=hd_ (Q9.out.boxed R0.out (.slice a21 n21 c21) (.slice a22 n22 c22))
  have G9:=hd_ (an_ HB.out (show w.heap.size≤w.heap.size by omega) (.slice a21 n21 c21) (.slice a22 n22 c22))
  go_wp2
  refine bodyPost_ret (bb_ Tryz.results13 _ _ (w.heap.size) 35 #[.slice a21 n21 c21,.slice a22 n22 c22] (0,0) _ rfl R9.out Tryz.underlying35 rfl (by kernel_rfl)) rfl ?_
  exact⟨a21,n21,c21,a22,n22,c22,rfl,P9.out,Q9.out,G9.out⟩
theorem fa_(S:PolySaid)(FS:FracSaid)(a:OA_)(n c:Nat)(b:OA_)(m d:Nat)(u v:LR_)(h s:Nat)(w:World)(hF:Fv w a n c b m d u v h s)(hk:Fok h s):Calls Tryz.prog 20 #[.agg #[.slice a n c,.slice b m d]] w (LstE u v w):=by
 obtain⟨U,V,hU,hV,hf,hz,_⟩:=hF
 have hfew:=mp_ hk
 have hs2:s+2≤1900000000:=by omega
 have HNEW:∃z:Value,∀w':World,Pv w' a n c U (s+2)→Pv w' b m d V (s+2)→Calls Tryz.prog 13 #[.slice a n c,.slice b m d] w' (LstEV u v z w'):=by
  by_cases hV0:plen V=0
  ·obtain⟨rfl,rfl⟩:=hf.zero (.inr hV0)
   exact⟨.bool false,fun w' g1 g2=>r4_ S FS a n c b m d V w' (g2.more hs2) (by rw[←g2.len];have:=hz.lv;have:=hk.2.1;omega) hV0⟩
  ·exact⟨.bool true,fun w' g1 g2=>qo_ S FS a n c U b m d V u v h s w' (g1.more hs2) (g2.more hs2) hf hz hk hV0⟩
 obtain⟨z,HNE⟩:=HNEW
 have HB:=hd_ (ab_ (aa_ w (.cells #[.slice a n c,.slice b m d] 35)) (aa_ _ (.cells #[.slice none 0 0,.slice none 0 0] 35)))
 have X0:Hid (((w.alloc (.cells #[.slice a n c,.slice b m d] 35)).alloc (.cells #[.slice none 0 0,.slice none 0 0] 35)).heap[w.heap.size]? = some (.cells #[.slice a n c,.slice b m d] 35 (0,0))):=hd_ (ac_ (ai_ w _ _) (aa_ _ (.cells #[.slice none 0 0,.slice none 0 0] 35)))
 have R0:Hid (((w.alloc (.cells #[.slice a n c,.slice b m d] 35)).alloc (.cells #[.slice none 0 0,.slice none 0 0] 35)).heap[w.heap.size+1]? = some (.cells #[.slice none 0 0,.slice none 0 0] 35 (0,0))):=hd_ (by have h9:=ai_ (w.alloc (.cells #[.slice a n c,.slice b m d] 35)) #[.slice none 0 0,.slice none 0 0] 35;rwa [al_] at h9)
 have A1:=hd_ (hU.later HB.out)
 have B1:=hd_ (hV.later HB.out)
 obtain⟨x0,x1⟩:=a0_ X0.out
 clear hU hV hf hz hk hfew hs2
 go_enter Tryz.func20,Tryz.ntmps20
 go_wp2_with fail
 refine (HNE _ A1.out B1.out).mono ?_
 rintro e w1 ⟨a1,n1,c1,b1,m1,d1,rfl,h1,g1,bw⟩
 clear x0 x1 HNE A1 B1 X0
 replace HB:=bt_ HB bw
 replace R0:=bl_ R0 bw
 have bb:=aa_ w1 (.cells #[.slice a1 n1 c1,.slice b1 m1 d1] 35)
 have N0:=hd_ (ai_ w1 #[.slice a1 n1 c1,.slice b1 m1 d1] 35)
 have P9:=h1.l_ bb
 have Q9:=g1.l_ bb
 replace HB:=bt_ HB bb
 replace R0:=bl_ R0 bb
 obtain⟨y0,y1⟩:=a0_ N0.out
 clear bw bb h1 g1
 obtain⟨r0,r1⟩:=a0_ R0.out
 have e0:=ad_ R0.out 0
 have e1:=ad_ R0.out 1
 have R9:=hd_ (a4_ R0.out (.slice a1 n1 c1) (.slice b1 m1 d1))
 replace P9:=hd_ (P9.out.boxed R0.out (.slice a1 n1 c1) (.slice b1 m1 d1))
 replace Q9:=hd_ (Q9.out.boxed R0.out (.slice a1 n1 c1) (.slice b1 m1 d1))
 have G9:=hd_ (an_ HB.out (show w.heap.size≤w.heap.size+1 by omega) (.slice a1 n1 c1) (.slice b1 m1 d1))
 go_wp2
 refine bodyPost_ret (results_cell_row Tryz.results20 _ _ (w.heap.size+1) 35 #[.slice a1 n1 c1,.slice b1 m1 d1] (0,0) _ rfl R9.out Tryz.underlying35 rfl (by kernel_rfl)) rfl ?_
 exact⟨a1,n1,c1,b1,m1,d1,rfl,P9.out,Q9.out,G9.out⟩
def Sm (p:LR_) (h s:Nat):Prop:=p.length≤h∧∀q∈p,qlen q≤s+2
theorem Fz.fst{U V:List Rat}{h s:Nat}(f:Fz U V h s):Sm U h s:=⟨f.lu,f.qlen⟩
theorem Fz.snd{U V:List Rat}{h s:Nat}(f:Fz U V h s):Sm V h s:=⟨f.lv,f.swap.qlen⟩
theorem Rw.put{w:World}{a:Option Addr}{n c:Nat}{qs:List Rat}(h:Rw w a n c qs){g:Nat}{x y:Option Addr}{n1 c1 n2 c2:Nat}{t:TypeId}(hg:w.heap[g]? = some (.cells #[.slice x n1 c1,.slice y n2 c2] t (0,0)))(i:Nat)(u:Value) :
 Rw (w.setCell ⟨g,i,none⟩ u) a n c qs:=by
 obtain⟨L,h1,h2,h3⟩:=h
 exact⟨L,h1.aside (v:=.slice (some ⟨g,0,none⟩) 0 0) (co_ hg fs_) (bv_ w g i u),h2,h3⟩
theorem ub_{w:World}{g:Nat}{x y:Value}{t:TypeId}(h:w.heap[g]? = some (.cells #[x,y] t (0,0)))(u:Value):(w.setCell ⟨g,0,none⟩ u).heap[g]? = some (.cells #[u,y] t (0,0)):=by simpa using gf_ h 0 u
theorem tj_{w:World}{g:Nat}{x y:Value}{t:TypeId}(h:w.heap[g]? = some (.cells #[x,y] t (0,0)))(u:Value):(w.setCell ⟨g,1,none⟩ u).heap[g]? = some (.cells #[x,u] t (0,0)):=by simpa using gf_ h 1 u
theorem hy_{w w1:World}{g:Nat}(h:Below w.heap.size w w1)(hg:w.heap.size≤g)(i:Nat)(u:Value):Below w.heap.size w (w1.setCell ⟨g,i,none⟩ u):=h.setCell (p:=⟨g,i,none⟩) hg u
theorem Pv.small{w:World}{a:Option Addr}{n c h s:Nat}{p:List Rat}(k:Rw w a n c p)(g:Sm p h s):Pv w a n c p (s+2):=Pv.right k g.2
theorem sq_{h s n N K:Nat}(hk:Pok h s)(hn:n≤h)(hN:N≤(s+1) * (2 * h)+2)(hK:K≤(s+1) * (2 * h)+2):(n+1) * (N+K+8)≤1900000000:=by
 refine Nat.le_trans ?_ hk.2
 have g1:(s+1) * (2 * h+1)=(s+1) * (2 * h)+(s+1):=by rw[Nat.mul_add,Nat.mul_one]
 have g2:(n+1) * (N+K+8)≤(h+1) * (2 * ((s+1) * (2 * h)+6)):=Nat.mul_le_mul (by omega) (by omega)
 have g3:(h+1) * (2 * ((s+1) * (2 * h)+6))=(2 * h+2) * ((s+1) * (2 * h)+6):=by rw[←Nat.mul_assoc,Nat.add_mul];congr 1;omega
 refine Nat.le_trans g2 ?_
 rw[g3]
 exact Nat.mul_le_mul (by omega) (by omega)
theorem pok_few{h s:Nat}(hk:Pok h s):24 * ((s+1) * (2 * h+1)+5)≤1900000000:=Nat.le_trans (Nat.mul_le_mul_right _ (by omega)) hk.2
theorem nu_{w:World}{a:Option Addr}{n c:Nat}{b:Option Addr}{m d:Nat}{u v:List Rat}{h s:Nat}(f:Fv w a n c b m d u v h s):Rf u v∧Fz u v h s∧1≤h:=by
 obtain⟨U,V,_,_,hf,_,hz⟩:=f
 have h1:=hf.1.v0
 have h2:=bc_ v
 have h3:=hz.lv
 exact⟨hf.1,hz,by omega⟩
theorem ti_(S:PolySaid)(FS:FracSaid)(a:OA_)(n c:Nat)(b:OA_)(m d:Nat)(u v:LR_)(h s:Nat)(a':OA_)(n' c':Nat)(b':OA_)(m' d':Nat)(x y:LR_)(k t:Nat)(w:World)(hA:Fv w a n c b m d u v h s)(hB:Fv w a' n' c' b' m' d' x y k t)(hk:Fok2 h s k t):Calls Tryz.prog 38 #[.agg #[.slice a n c,.slice b m d],.agg #[.slice a' n' c',.slice b' m' d']] w (LstF (pmul u x) (pmul v y) w):=by
 obtain⟨hu,fu,h1⟩:=nu_ hA
 obtain⟨hx,fx,k1⟩:=nu_ hB
 have HNA:∀w':World,Fv w' a n c b m d u v h s→Calls Tryz.prog 20 #[.agg #[.slice a n c,.slice b m d]] w' (LstE u v w'):=fun w' g=>fa_ S FS a n c b m d u v (h+2) s w' (g.mono (by omega) (Nat.le_refl _)) (hk.1.less (by omega) (by omega) (by omega))
 have HNB:∀w':World,Fv w' a' n' c' b' m' d' x y k t→Calls Tryz.prog 20 #[.agg #[.slice a' n' c',.slice b' m' d']] w' (LstE x y w'):=fun w' g=>fa_ S FS a' n' c' b' m' d' x y (k+2) t w' (g.mono (by omega) (Nat.le_refl _)) (hk.1.less (by omega) (by omega) (by omega))
 have hk2:=hk.2
 obtain⟨H,hH⟩:∃H,max h k=H:=⟨_,rfl⟩
 rw[hH] at hk2
 have hH1:1≤H:=by omega
 have hS9:s+t≤(s+t+1) * (2 * H+1):=Nat.le_trans (Nat.le_succ _) (Nat.le_mul_of_pos_right _ (by omega))
 have hk0:Pok H (s+t):=hk2.less (by omega) (by omega)
 have hfew:=pok_few hk0
 have hKs:(s+t+1) * (2 * H+1)=(s+t+1) * (2 * H)+(s+t+1):=by rw[Nat.mul_add,Nat.mul_one]
 have hst:s+t+2≤1900000000:=by omega
 have fuy:Fz u y H (s+t):=by rw[←hH];exact fu.pair fx.swap
 have fxv:Fz x v H (s+t):=by rw[←hH,Nat.max_comm,Nat.add_comm];exact fx.pair fu.swap
 obtain⟨KK,hKK⟩:∃K,(s+t+1) * (2 * H+1)+2=K:=⟨_,rfl⟩
 have HPN:∀(U V:LR_),Fz U V H (s+t)→Mon1 V→∀(w':World) (a3:OA_) (n3 c3:Nat) (b3:OA_) (m3 d3:Nat),Rw w' a3 n3 c3 U→Rw w' b3 m3 d3 V→Calls Tryz.prog 62 #[.slice a3 n3 c3,.slice b3 m3 d3] w' (l4_ U V H KK w'):=fun U V f9 hV w' a3 n3 c3 b3 m3 d3 g1 g2=>hKK▸gv_ S a3 n3 c3 U b3 m3 d3 V H (s+t) w' ((Pv.small g1 f9.fst).more hst) ((Pv.small g2 f9.snd).more hst) f9 hk0 hV.1
 have HP1:=HPN u y fuy hx.monic
 have HP2:=HPN x v fxv hu.monic
 have HMU:∀(w':World) (a3:OA_) (n3 c3:Nat) (p:LR_) (a4:OA_) (n4 c4:Nat) (q:LR_),Rw w' a3 n3 c3 p→Rw w' a4 n4 c4 q→Sm p H ((s+t+1) * (2 * H))→Sm q H ((s+t+1) * (2 * H))→Calls Tryz.prog 75 #[.slice a3 n3 c3,.slice a4 n4 c4] w' (b8_ (ah_ (pmul p q)) w'):=fun w' a3 n3 c3 p a4 n4 c4 q g1 g2 g3 g4=>nb_ S (Pv.small g1 g3) (Pv.small g2 g4) (by rw[←g1.len];have:=g3.1;have:=hk0.1;omega) (by rw[←g2.len];have:=g4.1;have:=hk0.1;omega) (sq_ hk0 (by rw[←g1.len];exact g3.1) (Nat.le_refl _) (Nat.le_refl _))
 have HS1:Hid (∀u1 y1 g,PartP u y H KK u1 y1 g→Sm u1 H ((s+t+1) * (2 * H))∧Sm y1 H ((s+t+1) * (2 * H))):=hd_ (fun u1 y1 g p=>⟨(fuy.right (p.isF hx.monic) hH1 (by have:=hk0.1;omega)).fst,(fuy.right (p.isF hx.monic) hH1 (by have:=hk0.1;omega)).snd⟩)
 have HS2:Hid (∀x1 v1 g,PartP x v H KK x1 v1 g→Sm x1 H ((s+t+1) * (2 * H))∧Sm v1 H ((s+t+1) * (2 * H))):=hd_ (fun u1 y1 g p=>⟨(fxv.right (p.isF hu.monic) hH1 (by have:=hk0.1;omega)).fst,(fxv.right (p.isF hu.monic) hH1 (by have:=hk0.1;omega)).snd⟩)
 have HEN:Hid (∀u1 y1 g x1 v1 g',PartP u y H KK u1 y1 g→PartP x v H KK x1 v1 g'→isF (pmul u x) (pmul v y) (ah_ (pmul u1 x1)) (ah_ (pmul v1 y1))):=hd_ (fun u1 y1 g x1 v1 g' p p'=>isF_mul hu hx p p' (ar_ _) (a9_ _) (ar_ _) (a9_ _))
 generalize (s+t+1) * (2 * H)=RR at HMU HS1 HS2
 have HB:=hd_ (ab_ (ab_ (aa_ w (.cells #[.slice a n c,.slice b m d] 35)) (aa_ _ (.cells #[.slice a' n' c',.slice b' m' d'] 35))) (aa_ _ (.cells #[.slice none 0 0,.slice none 0 0] 35)))
 have X0:Hid ((((w.alloc (.cells #[.slice a n c,.slice b m d] 35)).alloc (.cells #[.slice a' n' c',.slice b' m' d'] 35)).alloc (.cells #[.slice none 0 0,.slice none 0 0] 35)).heap[w.heap.size]? = some (.cells #[.slice a n c,.slice b m d] 35 (0,0))):=hd_ (ac_ (ac_ (ai_ w _ _) (aa_ _ (.cells #[.slice a' n' c',.slice b' m' d'] 35))) (aa_ _ (.cells #[.slice none 0 0,.slice none 0 0] 35)))
 have X1:Hid ((((w.alloc (.cells #[.slice a n c,.slice b m d] 35)).alloc (.cells #[.slice a' n' c',.slice b' m' d'] 35)).alloc (.cells #[.slice none 0 0,.slice none 0 0] 35)).heap[w.heap.size+1]? = some (.cells #[.slice a' n' c',.slice b' m' d'] 35 (0,0))):=hd_ (ac_ (by have h9:=ai_ (w.alloc (.cells #[.slice a n c,.slice b m d] 35)) #[.slice a' n' c',.slice b' m' d'] 35;rwa [al_] at h9) (aa_ _ (.cells #[.slice none 0 0,.slice none 0 0] 35)))
 have R0:Hid ((((w.alloc (.cells #[.slice a n c,.slice b m d] 35)).alloc (.cells #[.slice a' n' c',.slice b' m' d'] 35)).alloc (.cells #[.slice none 0 0,.slice none 0 0] 35)).heap[w.heap.size+1+1]? = some (.cells #[.slice none 0 0,.slice none 0 0] 35 (0,0))):=hd_ (by have h9:=ai_ ((w.alloc (.cells #[.slice a n c,.slice b m d] 35)).alloc (.cells #[.slice a' n' c',.slice b' m' d'] 35)) #[.slice none 0 0,.slice none 0 0] 35;rwa [al_,al_] at h9)
 have FA:=hd_ (hA.later HB.out)
 have FB:=hd_ (hB.later HB.out)
 clear hA hB hk hk2 hk0 hH hH1 hS9 hu fu h1 hx fx k1 hfew hKs hst fuy fxv hKK HPN
 go_enter Tryz.func38,Tryz.ntmps38
 go_upto_region 1 with fail
 go_cut [9] from 5 to 8 (fun _ wx=>∃(a1:OA_) (n1 c1:Nat) (b1:OA_) (m1 d1:Nat) (a2:OA_) (n2 c2:Nat) (b2:OA_) (m2 d2:Nat),Hid (wx.heap[w.heap.size]? = some (.cells #[.slice a1 n1 c1,.slice b1 m1 d1] 35 (0,0)))∧Hid (wx.heap[w.heap.size+1]? = some (.cells #[.slice a2 n2 c2,.slice b2 m2 d2] 35 (0,0)))∧Hid (wx.heap[w.heap.size+1+1]? = some (.cells #[.slice none 0 0,.slice none 0 0] 35 (0,0)))∧Hid (Rw wx a1 n1 c1 u)∧Hid (Rw wx b1 m1 d1 v)∧Hid (Rw wx a2 n2 c2 x)∧Hid (Rw wx b2 m2 d2 y)∧Hid (Below w.heap.size w wx))
 case first=>
  obtain⟨x0,x1,x2,x3⟩:=am_ X0.out X1.out
  go_wp2
  clear x0 x1 x2 x3
  generalize (((w.alloc (.cells #[.slice a n c,.slice b m d] 35)).alloc (.cells #[.slice a' n' c',.slice b' m' d'] 35)).alloc (.cells #[.slice none 0 0,.slice none 0 0] 35))=W at *
  replace HB:=bt_ HB (dw_ W)
  replace X0:Hid (W.drew.heap[w.heap.size]? = _):=hd_ X0.out
  replace X1:Hid (W.drew.heap[w.heap.size+1]? = _):=hd_ X1.out
  replace R0:Hid (W.drew.heap[w.heap.size+1+1]? = some (.cells #[.slice none 0 0,.slice none 0 0] 35 (0,0))):=hd_ R0.out
  replace FA:=FA.l_ (dw_ W)
  replace FB:=FB.l_ (dw_ W)
  obtain⟨pk0,pk1,pk2,pk3⟩:=am_ X0.out X1.out
  first | go_region_with (first
   | (go_at_call 20;(first
     | (have pm1:=pM1;refine (HNB _ FB.out).mono ?_;rintro e wp2 ⟨a2,n2,c2,b2,m2,d2,rfl,h2,g2,b⟩;replace HB:=bt_ HB b;replace X0:=bl_ X0 b;replace X1:=bl_ X1 b;replace R0:=bl_ R0 b;replace FA:=FA.l_ b;replace FB:=FB.l_ b;replace P1:=P1.l_ b;replace Q1:=Q1.l_ b;have P2:=hd_ h2;have Q2:=hd_ g2;clear h2 g2;have e0:=ad_ X0.out 0;have e1:=ad_ X0.out 1;have e2:=ad_ X1.out 0;have e3:=ad_ X1.out 1;clear b;obtain⟨pk0,pk1,pk2,pk3⟩:=am_ X0.out X1.out;clear pM1 pm1;have pM2:=True.intro)
     | (refine (HNA _ FA.out).mono ?_;rintro e wp1 ⟨a1,n1,c1,b1,m1,d1,rfl,h1,g1,b⟩;replace HB:=bt_ HB b;replace X0:=bl_ X0 b;replace X1:=bl_ X1 b;replace R0:=bl_ R0 b;replace FA:=FA.l_ b;replace FB:=FB.l_ b;have P1:=hd_ h1;have Q1:=hd_ g1;clear h1 g1;clear b;obtain⟨pk0,pk1,pk2,pk3⟩:=am_ X0.out X1.out;have pM1:=True.intro)))) | fail
  all_goals (
   have Y1:=hd_ (bh_ (g:=w.heap.size) X1.out (show w.heap.size+1≠w.heap.size by omega) (.slice a1 n1 c1) (.slice b1 m1 d1))
   have Y0:=hd_ (bh_ (g:=w.heap.size+1) (a4_ X0.out (.slice a1 n1 c1) (.slice b1 m1 d1)) (show w.heap.size≠w.heap.size+1 by omega) (.slice a2 n2 c2) (.slice b2 m2 d2))
   have YR:=hd_ (bh_ (g:=w.heap.size+1) (bh_ (g:=w.heap.size) R0.out (show w.heap.size+1+1≠w.heap.size by omega) (.slice a1 n1 c1) (.slice b1 m1 d1)) (show w.heap.size+1+1≠w.heap.size+1 by omega) (.slice a2 n2 c2) (.slice b2 m2 d2))
   have G9:=hd_ (an_ (an_ HB.out (show w.heap.size≤w.heap.size by omega) (.slice a1 n1 c1) (.slice b1 m1 d1)) (show w.heap.size≤w.heap.size+1 by omega) (.slice a2 n2 c2) (.slice b2 m2 d2))
   have Z1:=hd_ ((P1.out.boxed X0.out (.slice a1 n1 c1) (.slice b1 m1 d1)).boxed Y1.out (.slice a2 n2 c2) (.slice b2 m2 d2))
   have Z2:=hd_ ((Q1.out.boxed X0.out (.slice a1 n1 c1) (.slice b1 m1 d1)).boxed Y1.out (.slice a2 n2 c2) (.slice b2 m2 d2))
   have Z3:=hd_ ((P2.out.boxed X0.out (.slice a1 n1 c1) (.slice b1 m1 d1)).boxed Y1.out (.slice a2 n2 c2) (.slice b2 m2 d2))
   have Z4:=hd_ ((Q2.out.boxed X0.out (.slice a1 n1 c1) (.slice b1 m1 d1)).boxed Y1.out (.slice a2 n2 c2) (.slice b2 m2 d2))
   have Y2:=hd_ (a4_ Y1.out (.slice a2 n2 c2) (.slice b2 m2 d2))
   go_wp2
   go_meet
   exact⟨a1,n1,c1,b1,m1,d1,a2,n2,c2,b2,m2,d2,Y0,Y2,YR,Z1,Z2,Z3,Z4,G9⟩)
 case rest=>
  obtain⟨a1,n1,c1,b1,m1,d1,a2,n2,c2,b2,m2,d2,Y0,Y1,YR,U1,V1,U2,V2,HBc⟩:=hcut
  clear X0 X1 R0 FA FB HNA HNB HB
  obtain⟨x0,x1,x2,x3⟩:=am_ Y0.out Y1.out
  go_wp2_with fail
  refine (HP1 _ _ _ _ _ _ _ U1.out V2.out).mono ?_
  rintro e w3 ⟨a3,n3,c3,u1,a4,n4,c4,y1,a5,n5,c5,g1,rfl,h3,h4,h5,p1,bw⟩
  clear x0 x1 x2 x3 h5 HP1
  replace HBc:=bt_ HBc bw
  replace Y0:=bl_ Y0 bw
  replace Y1:=bl_ Y1 bw
  replace YR:=bl_ YR bw
  obtain⟨q0,q1,q2,q3⟩:=am_ Y0.out Y1.out
  have e0:=ad_ Y0.out 0
  have e1:=ad_ Y1.out 1
  have Z1:=hd_ (ci_ (g:=w.heap.size) Y1.out (show w.heap.size+1≠w.heap.size by omega) 0 (.slice a3 n3 c3))
  have e2:=ad_ Z1.out 1
  have Z0:=hd_ (ci_ (g:=w.heap.size+1) (ub_ Y0.out (.slice a3 n3 c3)) (show w.heap.size≠w.heap.size+1 by omega) 1 (.slice a4 n4 c4))
  have ZR:=hd_ (ci_ (g:=w.heap.size+1) (ci_ (g:=w.heap.size) YR.out (show w.heap.size+1+1≠w.heap.size by omega) 0 (.slice a3 n3 c3)) (show w.heap.size+1+1≠w.heap.size+1 by omega) 1 (.slice a4 n4 c4))
  have U3:=hd_ ((h3.put Y0.out 0 (.slice a3 n3 c3)).put Z1.out 1 (.slice a4 n4 c4))
  have U4:=hd_ ((h4.put Y0.out 0 (.slice a3 n3 c3)).put Z1.out 1 (.slice a4 n4 c4))
  replace V1:=hd_ (((V1.out.later bw).put Y0.out 0 (.slice a3 n3 c3)).put Z1.out 1 (.slice a4 n4 c4))
  replace U2:=hd_ (((U2.out.later bw).put Y0.out 0 (.slice a3 n3 c3)).put Z1.out 1 (.slice a4 n4 c4))
  replace HBc:=hd_ (hy_ (hy_ HBc.out (show w.heap.size≤w.heap.size by omega) 0 (.slice a3 n3 c3)) (show w.heap.size≤w.heap.size+1 by omega) 1 (.slice a4 n4 c4))
  replace Z1:=hd_ (tj_ Z1.out (.slice a4 n4 c4))
  clear Y0 Y1 YR U1 V2 h3 h4 bw
  obtain⟨x0,x1,x2,x3⟩:=am_ Z0.out Z1.out
  go_wp2_with fail
  refine (HP2 _ _ _ _ _ _ _ U2.out V1.out).mono ?_
  rintro e w4 ⟨a6,n6,c6,x1',a7,n7,c7,v1',a8,n8,c8,g2,rfl,h3,h4,h5,p2,bw⟩
  clear x0 x1 x2 x3 h5 HP2 e0 e1 e2 q0 q1 q2 q3
  replace HBc:=bt_ HBc bw
  replace Z0:=bl_ Z0 bw
  replace Z1:=bl_ Z1 bw
  replace ZR:=bl_ ZR bw
  obtain⟨q0,q1,q2,q3⟩:=am_ Z0.out Z1.out
  have e0:=ad_ Z1.out 0
  have e1:=ad_ Z0.out 1
  have X0:=hd_ (ci_ (g:=w.heap.size+1) Z0.out (show w.heap.size≠w.heap.size+1 by omega) 0 (.slice a6 n6 c6))
  have e2:=ad_ X0.out 1
  have X1:=hd_ (ci_ (g:=w.heap.size) (ub_ Z1.out (.slice a6 n6 c6)) (show w.heap.size+1≠w.heap.size by omega) 1 (.slice a7 n7 c7))
  have R0:=hd_ (ci_ (g:=w.heap.size) (ci_ (g:=w.heap.size+1) ZR.out (show w.heap.size+1+1≠w.heap.size+1 by omega) 0 (.slice a6 n6 c6)) (show w.heap.size+1+1≠w.heap.size by omega) 1 (.slice a7 n7 c7))
  have A6:=hd_ ((h3.put Z1.out 0 (.slice a6 n6 c6)).put X0.out 1 (.slice a7 n7 c7))
  have A7:=hd_ ((h4.put Z1.out 0 (.slice a6 n6 c6)).put X0.out 1 (.slice a7 n7 c7))
  have A3:=hd_ (((U3.out.later bw).put Z1.out 0 (.slice a6 n6 c6)).put X0.out 1 (.slice a7 n7 c7))
  have A4:=hd_ (((U4.out.later bw).put Z1.out 0 (.slice a6 n6 c6)).put X0.out 1 (.slice a7 n7 c7))
  have HB:=hd_ (hy_ (hy_ HBc.out (show w.heap.size≤w.heap.size+1 by omega) 0 (.slice a6 n6 c6)) (show w.heap.size≤w.heap.size by omega) 1 (.slice a7 n7 c7))
  replace X0:=hd_ (tj_ X0.out (.slice a7 n7 c7))
  have HM1:=fun (w':World) (g1:Rw w' a3 n3 c3 u1) (g2:Rw w' a6 n6 c6 x1')=>HMU w' a3 n3 c3 u1 a6 n6 c6 x1' g1 g2 (HS1.out _ _ _ p1).1 (HS2.out _ _ _ p2).1
  have HM2:=fun (w':World) (g1:Rw w' a7 n7 c7 v1') (g2:Rw w' a4 n4 c4 y1)=>HMU w' a7 n7 c7 v1' a4 n4 c4 y1 g1 g2 (HS2.out _ _ _ p2).2 (HS1.out _ _ _ p1).2
  have KF:=hd_ (HEN.out _ _ _ _ _ _ p1 p2)
  generalize ah_ (pmul u1 x1')=pu at *
  generalize ah_ (pmul v1' y1)=pv at *
  clear Z0 Z1 ZR U2 V1 U3 U4 h3 h4 bw HBc p1 p2 HMU HS1 HS2 HEN
  go_wp2
  clear q0 q1 q2 q3 e0 e1 e2
  generalize ((w4.setCell ⟨w.heap.size+1,0,none⟩ (.slice a6 n6 c6)).setCell ⟨w.heap.size,1,none⟩ (.slice a7 n7 c7))=W at *
  replace HB:=bt_ HB (dw_ W)
  replace X0:Hid (W.drew.heap[w.heap.size]? = _):=hd_ X0.out
  replace X1:Hid (W.drew.heap[w.heap.size+1]? = _):=hd_ X1.out
  replace R0:Hid (W.drew.heap[w.heap.size+1+1]? = some (.cells #[.slice none 0 0,.slice none 0 0] 35 (0,0))):=hd_ R0.out
  replace A3:=A3.l_ (dw_ W)
  replace A4:=A4.l_ (dw_ W)
  replace A6:=A6.l_ (dw_ W)
  replace A7:=A7.l_ (dw_ W)
  have pSn:=am_ X0.out X1.out
  go_region_held3 (fun w'=>w'.cell? ⟨w.heap.size,0,none⟩=some (.slice a3 n3 c3)∧w'.cell? ⟨w.heap.size,1,none⟩=some (.slice a7 n7 c7)∧w'.cell? ⟨w.heap.size+1,0,none⟩=some (.slice a6 n6 c6)∧w'.cell? ⟨w.heap.size+1,1,none⟩=some (.slice a4 n4 c4)) (first | exact pSn | exact pSb _ _)
   (first
   | (go_at_call 75;(first
     | (have pm1:=pM1;refine (HM2 _ A7.out A4.out).mono ?_;rintro e wp2 ⟨a22,n22,c22,rfl,h22,b⟩;replace HB:=bt_ HB b;replace X0:=bl_ X0 b;replace X1:=bl_ X1 b;replace R0:=bl_ R0 b;replace A3:=A3.l_ b;replace A4:=A4.l_ b;replace A6:=A6.l_ b;replace A7:=A7.l_ b;replace P9:=P9.l_ b;have Q9:=hd_ h22;clear h22;obtain⟨r0,r1⟩:=a0_ R0.out;have e0:=ad_ R0.out 0;have e1:=ad_ R0.out 1;have pSb:=fun u v=>am_ (bh_ (g:=w.heap.size+1+1) X0.out (by omega) u v) (bh_ (g:=w.heap.size+1+1) X1.out (by omega) u v);clear b;clear pSn;have pSn:=am_ X0.out X1.out;clear pM1 pm1;have pM2:=True.intro)
     | (refine (HM1 _ A3.out A6.out).mono ?_;rintro e wp1 ⟨a21,n21,c21,rfl,h21,b⟩;replace HB:=bt_ HB b;replace X0:=bl_ X0 b;replace X1:=bl_ X1 b;replace R0:=bl_ R0 b;replace A3:=A3.l_ b;replace A4:=A4.l_ b;replace A6:=A6.l_ b;replace A7:=A7.l_ b;have P9:=hd_ h21;clear h21;clear b;clear pSn;have pSn:=am_ X0.out X1.out;have pM1:=True.intro))))
  have R9:=hd_ (a4_ R0.out (.slice a21 n21 c21) (.slice a22 n22 c22))
  replace P9:=hd_ (P9.out.boxed R0.out (.slice a21 n21 c21) (.slice a22 n22 c22))
  replace Q9:=hd_ (Q9.out.boxed R0.out (.slice a21 n21 c21) (.slice a22 n22 c22))
  have G9:=hd_ (an_ HB.out (show w.heap.size≤w.heap.size+1+1 by omega) (.slice a21 n21 c21) (.slice a22 n22 c22))
  go_wp2
  refine bodyPost_ret (results_cell_row Tryz.results38 _ _ (w.heap.size+1+1) 35 #[.slice a21 n21 c21,.slice a22 n22 c22] (0,0) _ rfl R9.out Tryz.underlying35 rfl (by kernel_rfl)) rfl ?_
  exact⟨a21,n21,c21,pu,a22,n22,c22,pv,rfl,P9.out,Q9.out,KF.out,G9.out⟩
end Go.Proofs.YtocebjbjnfammaaGreat
