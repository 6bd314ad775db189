import Derived.Test.YtocebjbjnfammaaGreatLG8
import Derived.Test.YtocebjbjnfammaaGreatLG7
import Derived.Test.YtocebjbjnfammaaGreatLG3
import Derived.Deep.RegionHeld3
import Derived.Deep.CutRange
import Derived.Deep.RegionWith
import Derived.Test.YtocebjbjnfammaaGreatLG6
import Derived.Test.YtocebjbjnfammaaGreatLG1
set_option maxRecDepth 4096
set_option maxHeartbeats 16000000
namespace Go.Proofs.YtocebjbjnfammaaGreat
open Go.RowKit
theorem bb_{w w':World}{p q:Addr}{x y:Value}(h:w.cell? p=some x∧w.cell? q=some y)(hb:Below w.heap.size w w'):w'.cell? p=some x∧w'.cell? q=some y:=⟨cell_later hb h.1,cell_later hb h.2⟩
theorem ek_{w:World}{A0 A1 A2:Nat}{x0 x1 y0 y1 y2 z0 z1:Value}{t0 t1 t2:TypeId}(h0:w.heap[A0]? = some (.cells #[x0,x1] t0 (0,0)))(h1:w.heap[A1]? = some (.cells #[y0,y1,y2] t1 (0,0)))(h2:w.heap[A2]? = some (.cells #[z0,z1] t2 (0,0))) :
 w.cell? ⟨A0,0,none⟩=some x0∧w.cell? ⟨A0,1,none⟩=some x1∧w.cell? ⟨A1,0,none⟩=some y0∧w.cell? ⟨A1,1,none⟩=some y1∧w.cell? ⟨A1,2,none⟩=some y2∧w.cell? ⟨A2,0,none⟩=some z0∧w.cell? ⟨A2,1,none⟩=some z1:=⟨ad_ h0 0,ad_ h0 1,ad_ h1 0,ad_ h1 1,ad_ h1 2,ad_ h2 0,ad_ h2 1⟩
theorem od_(S:RatfSaid)(F:FracSaid)(w:World):Calls Tryz.prog 9 #[] w (bo_ (.bool true) w):=by
 have k2:qlen 1≤2:=ci_ (z:=1) (by decide)
 have k0:qlen 0≤2:=ci_ (z:=0) (by decide)
 have k9:qlen 2≤2:=ci_ (z:=2) (by decide)
 have l1:∀q∈([1]:LR_),qlen q≤2:=fun q hq=>by
  simp only[List.mem_cons,List.not_mem_nil,or_false] at hq
  rw[hq];exact k2
 have l2:∀q∈([0,1]:LR_),qlen q≤2:=fun q hq=>by
  simp only[List.mem_cons,List.not_mem_nil,or_false] at hq
  rcases hq with rfl | rfl <;> assumption
 have l3:∀q∈([0,2]:LR_),qlen q≤2:=fun q hq=>by
  simp only[List.mem_cons,List.not_mem_nil,or_false] at hq
  rcases hq with rfl | rfl <;> assumption
 have l4:∀q∈([1 / 2]:LR_),qlen q≤2:=fun q hq=>by
  simp only[List.mem_cons,List.not_mem_nil,or_false] at hq
  rw[hq];exact n8_
 have z21:=hk_ l2 l1 (by decide) (by decide)
 have z31:=hk_ l3 l1 (by decide) (by decide)
 have z11:=hk_ l1 l1 (by decide) (by decide)
 have z12:=hk_ l1 l2 (by decide) (by decide)
 have z41:=hk_ l4 l1 (by decide) (by decide)
 have r2:Rf [0,1] [1]:=n9_ (by decide +kernel)
 have r3:Rf [0,2] [1]:=n9_ (by decide +kernel)
 have r1:Rf [1] [1]:=n9_ (by decide +kernel)
 have r4:Rf [1 / 2] [1]:=n9_ (by decide +kernel)
 have hfok:Fok 2 9:=⟨by decide,by decide,by decide⟩
 have hfok8:Fok 2 8:=⟨by decide,by decide,by decide⟩
 have hfok2:Fok2 2 8 2 8:=by unfold Fok2 Fok;decide
 obtain⟨q0,hq0⟩:∃q:Rat,((0:Int):Rat)=q:=⟨_,rfl⟩
 obtain⟨q1,hq1⟩:∃q:Rat,((1:Int):Rat)=q:=⟨_,rfl⟩
 obtain⟨q2,hq2⟩:∃q:Rat,((2:Int):Rat)=q:=⟨_,rfl⟩
 have e0:q0=0:=by rw[←hq0];rfl
 have e1:q1=1:=by rw[←hq1];rfl
 have e2:q2=2:=by rw[←hq2];rfl
 have HO0:∀w':World,Calls Tryz.prog 47 #[.int .i64 0] w' (LstQ q0 w'):=fun w'=>hq0▸F.of 0 w' (by decide)
 have HO1:∀w':World,Calls Tryz.prog 47 #[.int .i64 1] w' (LstQ q1 w'):=fun w'=>hq1▸F.of 1 w' (by decide)
 have HO2:∀w':World,Calls Tryz.prog 47 #[.int .i64 2] w' (LstQ q2 w'):=fun w'=>hq2▸F.of 2 w' (by decide)
 obtain⟨qh,hqh⟩:∃q:Rat,((1:Int):Rat) / ((2:Int):Rat)=q:=⟨_,rfl⟩
 have eh:qh=1 / 2:=by rw[←hqh];rfl
 have HRA:∀w':World,Calls Tryz.prog 48 #[.int .i64 1,.int .i64 2] w' (fc_ qh (.bool true) w'):=fun w'=>by
  have h9:=F.ratio 1 2 w' (by decide) (by decide)
  rw[hqh,decide_eq_true (by decide:(2:Int)≠0)] at h9
  exact h9
 have lw:∀{q:Rat} {w':World} {a:Option Addr} {n c:Nat} {b:Option Addr} {m d:Nat},qlen q≤2→Wd w' a n c (dg q.num.natAbs)→Wd w' b m d (dg q.den)→Fr w' (frV (zneg q.num) a n c b m d) q 2:=fun {q w' a n c b m d} h1 h2 h3=>Fr.right h2 h3 (by rw[←h2.len];exact Nat.le_trans (bf_ _) h1) (by rw[←h3.len];exact Nat.le_trans (bd_ _) h1)
 have y0:qlen q0≤2:=by rw[e0];exact k0
 have y1:qlen q1≤2:=by rw[e1];exact k2
 have y2:qlen q2≤2:=by rw[e2];exact k9
 have yh:qlen qh≤2:=by rw[eh];exact n8_
 obtain⟨X1,hX1⟩:∃l:LR_,[0,1]=l:=⟨_,rfl⟩
 obtain⟨X2,hX2⟩:∃l:LR_,[0,2]=l:=⟨_,rfl⟩
 obtain⟨ON,hON⟩:∃l:LR_,[1]=l:=⟨_,rfl⟩
 obtain⟨XH,hXH⟩:∃l:LR_,[1 / 2]=l:=⟨_,rfl⟩
 obtain⟨qz,hqz⟩:∃q:Rat,(0:Rat)=q:=⟨_,rfl⟩
 have HL1:∀(w':World) (a1:OA_) (n1 c1:Nat) (b1:OA_) (m1 d1:Nat) (a2:OA_) (n2 c2:Nat) (b2:OA_) (m2 d2:Nat),Wd w' a1 n1 c1 (dg q0.num.natAbs)→Wd w' b1 m1 d1 (dg q0.den)→Wd w' a2 n2 c2 (dg q1.num.natAbs)→Wd w' b2 m2 d2 (dg q1.den)→Calls Tryz.prog 46 #[.agg #[.bool (zneg q0.num),.slice a1 n1 c1,.slice b1 m1 d1],.agg #[.bool (zneg q1.num),.slice a2 n2 c2,.slice b2 m2 d2]] w' (LstX X1 ON w'):=fun w' a1 n1 c1 b1 m1 d1 a2 n2 c2 b2 m2 d2 h1 h2 h3 h4=>by
  have h9:=S.line (frV (zneg q0.num) a1 n1 c1 b1 m1 d1) q0 (frV (zneg q1.num) a2 n2 c2 b2 m2 d2) q1 2 w' (lw y0 h1 h2) (lw y1 h3 h4) hfok
  rw[e0,e1,hX1,hON] at h9
  rw[hX1,hON] at r2
  rw[e0,e1]
  exact h9.mono fun _ _ h8=>h8.just r2.isF
 have HL2:∀(w':World) (a1:OA_) (n1 c1:Nat) (b1:OA_) (m1 d1:Nat) (a2:OA_) (n2 c2:Nat) (b2:OA_) (m2 d2:Nat),Wd w' a1 n1 c1 (dg q0.num.natAbs)→Wd w' b1 m1 d1 (dg q0.den)→Wd w' a2 n2 c2 (dg q2.num.natAbs)→Wd w' b2 m2 d2 (dg q2.den)→Calls Tryz.prog 46 #[.agg #[.bool (zneg q0.num),.slice a1 n1 c1,.slice b1 m1 d1],.agg #[.bool (zneg q2.num),.slice a2 n2 c2,.slice b2 m2 d2]] w' (LstX X2 ON w'):=fun w' a1 n1 c1 b1 m1 d1 a2 n2 c2 b2 m2 d2 h1 h2 h3 h4=>by
  have h9:=S.line (frV (zneg q0.num) a1 n1 c1 b1 m1 d1) q0 (frV (zneg q2.num) a2 n2 c2 b2 m2 d2) q2 2 w' (lw y0 h1 h2) (lw y2 h3 h4) hfok
  rw[e0,e2,hX2,hON] at h9
  rw[hX2,hON] at r3
  rw[e0,e2]
  exact h9.mono fun _ _ h8=>h8.just r3.isF
 have HF1:∀(w':World) (a1:OA_) (n1 c1:Nat) (b1:OA_) (m1 d1:Nat),Wd w' a1 n1 c1 (dg q1.num.natAbs)→Wd w' b1 m1 d1 (dg q1.den)→Calls Tryz.prog 28 #[.agg #[.bool (zneg q1.num),.slice a1 n1 c1,.slice b1 m1 d1]] w' (LstX ON ON w'):=fun w' a1 n1 c1 b1 m1 d1 h1 h2=>by
  have h9:=S.of (frV (zneg q1.num) a1 n1 c1 b1 m1 d1) q1 2 w' (lw y1 h1 h2) hfok
  rw[e1,hON] at h9
  rw[hON] at r1
  rw[e1]
  exact h9.mono fun _ _ h8=>h8.just r1.isF
 have HFH:∀(w':World) (a1:OA_) (n1 c1:Nat) (b1:OA_) (m1 d1:Nat),Wd w' a1 n1 c1 (dg qh.num.natAbs)→Wd w' b1 m1 d1 (dg qh.den)→Calls Tryz.prog 28 #[.agg #[.bool (zneg qh.num),.slice a1 n1 c1,.slice b1 m1 d1]] w' (LstX XH ON w'):=fun w' a1 n1 c1 b1 m1 d1 h1 h2=>by
  have h9:=S.of (frV (zneg qh.num) a1 n1 c1 b1 m1 d1) qh 2 w' (lw yh h1 h2) hfok
  rw[eh,hXH,hON] at h9
  rw[hXH,hON] at r4
  rw[eh]
  exact h9.mono fun _ _ h8=>h8.just r4.isF
 have HQ1:∀(w':World) (a1:OA_) (n1 c1:Nat) (b1:OA_) (m1 d1:Nat) (a2:OA_) (n2 c2:Nat) (b2:OA_) (m2 d2:Nat),Rw w' a1 n1 c1 X1→Rw w' b1 m1 d1 ON→Rw w' a2 n2 c2 X2→Rw w' b2 m2 d2 ON→Calls Tryz.prog 29 #[.agg #[.slice a1 n1 c1,.slice b1 m1 d1],.agg #[.slice a2 n2 c2,.slice b2 m2 d2]] w' (LstXV XH ON (.bool true) w'):=fun w' a1 n1 c1 b1 m1 d1 a2 n2 c2 b2 m2 d2 h1 h2 h3 h4=>by
  subst hX1 hX2 hON hXH
  have h9:=S.quo a1 n1 c1 b1 m1 d1 [0,1] [1] 2 8 a2 n2 c2 b2 m2 d2 [0,2] [1] 2 8 w' (Fv.right h1 h2 r2 z21 (by decide)) (Fv.right h3 h4 r3 z31 (by decide)) hfok2
  rw[decide_eq_true (by simp:([0,2]:LR_)≠[])] at h9
  exact h9.mono fun _ _ h8=>h8.just ex15_quo
 have HQ2:∀(w':World) (a1:OA_) (n1 c1:Nat) (b1:OA_) (m1 d1:Nat) (a2:OA_) (n2 c2:Nat) (b2:OA_) (m2 d2:Nat),Rw w' a1 n1 c1 ON→Rw w' b1 m1 d1 ON→Rw w' a2 n2 c2 X1→Rw w' b2 m2 d2 ON→Calls Tryz.prog 29 #[.agg #[.slice a1 n1 c1,.slice b1 m1 d1],.agg #[.slice a2 n2 c2,.slice b2 m2 d2]] w' (LstXV ON X1 (.bool true) w'):=fun w' a1 n1 c1 b1 m1 d1 a2 n2 c2 b2 m2 d2 h1 h2 h3 h4=>by
  subst hX1 hON
  have h9:=S.quo a1 n1 c1 b1 m1 d1 [1] [1] 2 8 a2 n2 c2 b2 m2 d2 [0,1] [1] 2 8 w' (Fv.right h1 h2 r1 z11 (by decide)) (Fv.right h3 h4 r2 z21 (by decide)) hfok2
  rw[decide_eq_true (by simp:([0,1]:LR_)≠[])] at h9
  exact h9.mono fun _ _ h8=>h8.just ex15_over
 have HEV:∀(w':World) (a1:OA_) (n1 c1:Nat) (b1:OA_) (m1 d1:Nat) (a2:OA_) (n2 c2:Nat) (b2:OA_) (m2 d2:Nat),Rw w' a1 n1 c1 ON→Rw w' b1 m1 d1 X1→Wd w' a2 n2 c2 (dg q0.num.natAbs)→Wd w' b2 m2 d2 (dg q0.den)→Calls Tryz.prog 16 #[.agg #[.slice a1 n1 c1,.slice b1 m1 d1],.agg #[.bool (zneg q0.num),.slice a2 n2 c2,.slice b2 m2 d2]] w' (fc_ qz (.bool false) w'):=fun w' a1 n1 c1 b1 m1 d1 a2 n2 c2 b2 m2 d2 h1 h2 h3 h4=>by
  subst hX1 hON hqz
  exact S.eval_no a1 n1 c1 b1 m1 d1 [1] [0,1] 2 8 (frV (zneg q0.num) a2 n2 c2 b2 m2 d2) q0 2 w' (Fv.right h1 h2 ow_ z12 (by decide)) (lw y0 h3 h4) hfok8 (by decide) (by rw[e0];decide +kernel)
 have HSM:∀(w':World) (a1:OA_) (n1 c1:Nat) (b1:OA_) (m1 d1:Nat) (a2:OA_) (n2 c2:Nat) (b2:OA_) (m2 d2:Nat),Rw w' a1 n1 c1 XH→Rw w' b1 m1 d1 ON→Rw w' a2 n2 c2 XH→Rw w' b2 m2 d2 ON→Calls Tryz.prog 24 #[.agg #[.slice a1 n1 c1,.slice b1 m1 d1],.agg #[.slice a2 n2 c2,.slice b2 m2 d2]] w' (bo_ (.bool true) w'):=fun w' a1 n1 c1 b1 m1 d1 a2 n2 c2 b2 m2 d2 h1 h2 h3 h4=>by
  subst hXH hON
  have h9:=S.same a1 n1 c1 b1 m1 d1 [1 / 2] [1] 2 8 a2 n2 c2 b2 m2 d2 [1 / 2] [1] 2 8 w' (Fv.right h1 h2 r4 z41 (by decide)) (Fv.right h3 h4 r4 z41 (by decide)) hfok8 hfok8 (by decide)
  rw[decide_eq_true ⟨rfl,rfl⟩] at h9
  exact h9
 have HZR:∀(w':World) (a1:OA_) (n1 c1:Nat) (b1:OA_) (m1 d1:Nat),Rw w' a1 n1 c1 ON→Rw w' b1 m1 d1 X1→Calls Tryz.prog 23 #[.agg #[.slice a1 n1 c1,.slice b1 m1 d1]] w' (bo_ (.bool false) w'):=fun w' a1 n1 c1 b1 m1 d1 h1 h2=>by
  subst hX1 hON
  have h9:=S.zero a1 n1 c1 b1 m1 d1 [1] [0,1] 2 8 w' (Fv.right h1 h2 ow_ z12 (by decide)) hfok8
  rw[decide_eq_false (by simp:¬([1]:LR_)=[])] at h9
  exact h9
 have HB:=hd_ (Below.refl w.heap.size w)
 clear k2 k0 k9 l1 l2 l3 l4 z21 z31 z11 z12 z41 r2 r3 r1 r4 hfok hfok8 hfok2 hq0 hq1 hq2 e0 e1 e2 hqh eh lw y0 y1 y2 yh hX1 hX2 hON hXH hqz
 go_enter Tryz.func9,Tryz.ntmps9
 go_wp2_with fail
 refine (HO0 _).mono ?_
 rintro ed w1 ⟨a1,n1,c1,b1,m1,d1,rfl,h1,g1,bw⟩
 replace HB:=bt_ HB bw
 have A1:=hd_ h1
 have D1:=hd_ g1
 unfold frV
 clear bw h1 g1
 go_wp2_with fail
 refine (HO1 _).mono ?_
 rintro ed w2 ⟨a2,n2,c2,b2,m2,d2,rfl,h2,g2,bw⟩
 replace HB:=bt_ HB bw
 replace A1:=A1.l_ bw
 replace D1:=D1.l_ bw
 have A2:=hd_ h2
 have D2:=hd_ g2
 unfold frV
 clear bw h2 g2
 go_wp2_with fail
 refine (HL1 _ _ _ _ _ _ _ _ _ _ _ _ _ A1.out D1.out A2.out D2.out).mono ?_
 rintro ed w3 ⟨ax,nx,cx,bx,mx,dx,rfl,h3,g3,bw⟩
 replace HB:=bt_ HB bw
 have ba:=aa_ w3 (.cells #[.slice ax nx cx,.slice bx mx dx] 35)
 have BX:=hd_ (ao_ w3 #[.slice ax nx cx,.slice bx mx dx] 35)
 have RX:=h3.l_ ba
 have SX:=g3.l_ ba
 replace HB:=bt_ HB ba
 clear bw ba h3 g3 A1 D1 A2 D2 HL1
 go_upto_region 2 with fail
 generalize w3.alloc (.cells #[.slice ax nx cx,.slice bx mx dx] 35)=wr at *
 have SU:=hd_ (bw_ BX.out)
 go_upto_region 2 with fail
 go_cut [2,3] from 13 to 20 (fun cv ov wx=>∃(g:Nat) (aq:OA_) (nq cq:Nat) (bq:OA_) (mq dq:Nat),cv=.pointer (some ⟨g,0,none⟩)∧ov=.bool true∧Hid (wx.heap[g]? = some (.cells #[.slice aq nq cq,.slice bq mq dq] 35 (0,0)))∧Hid (Rw wx aq nq cq XH)∧Hid (Rw wx bq mq dq ON)∧Hid (Below wr.heap.size wr wx))
 case first=>
  obtain⟨s0,s1⟩:=bb_ SU.out (Below.refl wr.heap.size wr)
  go_wp2
  clear s0 s1
  have G1:Below wr.heap.size wr wr.drew:=(Below.refl _ _).drew
  have G2:∀o,Below wr.heap.size wr (wr.alloc o).drew:=fun o=>(aa_ wr o).drew
  have qS:=bb_ SU.out (G1)
  have qA:=fun (o:Obj)=>bb_ SU.out (G2 o)
  go_region_held3 (fun w'=>w'.cell? ⟨w3.heap.size,0,none⟩=some (.slice ax nx cx)∧w'.cell? ⟨w3.heap.size,1,none⟩=some (.slice bx mx dx)) (first | with_reducible exact qS | with_reducible exact qA _ | with_reducible exact qC)
   (first
   | (go_at_call 47;(first
     | (have mm:=M0;(first
       | (have yy9:=ZF;(with_reducible refine (HO2 wq0).mono ?_);rintro ed wq1 ⟨a2,n2,c2,b2,m2,d2,rfl,h2,g2,bw⟩;have bb:=bw;replace BC:=bt_ BC bb;replace RX:=RX.l_ bb;replace SX:=SX.l_ bb;replace A1:=A1.l_ bb;replace D1:=D1.l_ bb;have A2:=hd_ (h2);have D2:=hd_ (g2);replace ZF:=bl_ ZF bw;clear yy9;clear bb bw qS qA;clear h2 g2;(try unfold frV);have qS:=bb_ SU.out (BC.out);have qA:=fun (o:Obj)=>bb_ SU.out (ab_ BC.out (aa_ wq1 o));have M1:=True.intro)
       | ((with_reducible refine (HO2 wq0).mono ?_);rintro ed wq1 ⟨a2,n2,c2,b2,m2,d2,rfl,h2,g2,bw⟩;have bb:=bw;replace BC:=bt_ BC bb;replace RX:=RX.l_ bb;replace SX:=SX.l_ bb;replace A1:=A1.l_ bb;replace D1:=D1.l_ bb;have A2:=hd_ (h2);have D2:=hd_ (g2);clear bb bw qS qA;clear h2 g2;(try unfold frV);have qS:=bb_ SU.out (BC.out);have qA:=fun (o:Obj)=>bb_ SU.out (ab_ BC.out (aa_ wq1 o));have M1:=True.intro)
       | (have ba:=aa_ wq0 (.cells #[.slice none 0 0,.slice none 0 0] 35);(with_reducible refine (HO2 (wq0.alloc (.cells #[.slice none 0 0,.slice none 0 0] 35))).mono ?_);have hzb:wr.heap.size≤wq0.heap.size:=BC.out.size;rintro ed wq1 ⟨a2,n2,c2,b2,m2,d2,rfl,h2,g2,bw⟩;have bb:=ab_ ba bw;replace BC:=bt_ BC bb;replace RX:=RX.l_ bb;replace SX:=SX.l_ bb;replace A1:=A1.l_ bb;replace D1:=D1.l_ bb;have A2:=hd_ (h2);have D2:=hd_ (g2);have ZF:=hd_ (ag_ (ao_ wq0 #[.slice none 0 0,.slice none 0 0] 35) bw);clear ba;clear bb bw qS qA;clear h2 g2;(try unfold frV);have qS:=bb_ SU.out (BC.out);have qA:=fun (o:Obj)=>bb_ SU.out (ab_ BC.out (aa_ wq1 o));have M1:=True.intro)))
     | ((first
       | ((with_reducible refine (HO0 wr.drew).mono ?_);rintro ed wq0 ⟨a1,n1,c1,b1,m1,d1,rfl,h1,g1,bw⟩;have bb:=ab_ G1 bw;have BC:=hd_ bb;replace RX:=RX.l_ bb;replace SX:=SX.l_ bb;have A1:=hd_ (h1);have D1:=hd_ (g1);clear bb bw qS qA;clear h1 g1;(try unfold frV);have qS:=bb_ SU.out (BC.out);have qA:=fun (o:Obj)=>bb_ SU.out (ab_ BC.out (aa_ wq0 o));have M0:=True.intro)
       | ((with_reducible refine (HO0 (wr.alloc (.cells #[.slice none 0 0,.slice none 0 0] 35)).drew).mono ?_);have hzb:wr.heap.size≤wr.heap.size:=Nat.le_refl _;rintro ed wq0 ⟨a1,n1,c1,b1,m1,d1,rfl,h1,g1,bw⟩;have bb:=ab_ (G2 (.cells #[.slice none 0 0,.slice none 0 0] 35)) bw;have BC:=hd_ bb;replace RX:=RX.l_ bb;replace SX:=SX.l_ bb;have A1:=hd_ (h1);have D1:=hd_ (g1);have ZF:=hd_ (ag_ (w:=(wr.alloc (.cells #[.slice none 0 0,.slice none 0 0] 35)).drew) (ao_ wr #[.slice none 0 0,.slice none 0 0] 35) bw);clear bb bw qS qA;clear h1 g1;(try unfold frV);have qS:=bb_ SU.out (BC.out);have qA:=fun (o:Obj)=>bb_ SU.out (ab_ BC.out (aa_ wq0 o));have M0:=True.intro)))))
   | (go_at_call 46;(first
     | (have mm:=M1;(first
       | (have yy9:=ZF;(with_reducible refine (HL2 wq1 _ _ _ _ _ _ _ _ _ _ _ _ A1.out D1.out A2.out D2.out).mono ?_);rintro ed wq2 ⟨a3,n3,c3,b3,m3,d3,rfl,h3,g3,bw⟩;have bb:=bw;replace BC:=bt_ BC bb;replace RX:=RX.l_ bb;replace SX:=SX.l_ bb;replace A1:=A1.l_ bb;replace D1:=D1.l_ bb;replace A2:=A2.l_ bb;replace D2:=D2.l_ bb;have R3:=hd_ (h3);have S3:=hd_ (g3);replace ZF:=bl_ ZF bw;clear yy9;clear bb bw qS qA;clear h3 g3;(try unfold frV);have qS:=bb_ SU.out (BC.out);have qA:=fun (o:Obj)=>bb_ SU.out (ab_ BC.out (aa_ wq2 o));have M2:=True.intro)
       | ((with_reducible refine (HL2 wq1 _ _ _ _ _ _ _ _ _ _ _ _ A1.out D1.out A2.out D2.out).mono ?_);rintro ed wq2 ⟨a3,n3,c3,b3,m3,d3,rfl,h3,g3,bw⟩;have bb:=bw;replace BC:=bt_ BC bb;replace RX:=RX.l_ bb;replace SX:=SX.l_ bb;replace A1:=A1.l_ bb;replace D1:=D1.l_ bb;replace A2:=A2.l_ bb;replace D2:=D2.l_ bb;have R3:=hd_ (h3);have S3:=hd_ (g3);clear bb bw qS qA;clear h3 g3;(try unfold frV);have qS:=bb_ SU.out (BC.out);have qA:=fun (o:Obj)=>bb_ SU.out (ab_ BC.out (aa_ wq2 o));have M2:=True.intro)
       | (have ba:=aa_ wq1 (.cells #[.slice none 0 0,.slice none 0 0] 35);(with_reducible refine (HL2 (wq1.alloc (.cells #[.slice none 0 0,.slice none 0 0] 35)) _ _ _ _ _ _ _ _ _ _ _ _ (A1.out.later ba) (D1.out.later ba) (A2.out.later ba) (D2.out.later ba)).mono ?_);have hzb:wr.heap.size≤wq1.heap.size:=BC.out.size;rintro ed wq2 ⟨a3,n3,c3,b3,m3,d3,rfl,h3,g3,bw⟩;have bb:=ab_ ba bw;replace BC:=bt_ BC bb;replace RX:=RX.l_ bb;replace SX:=SX.l_ bb;replace A1:=A1.l_ bb;replace D1:=D1.l_ bb;replace A2:=A2.l_ bb;replace D2:=D2.l_ bb;have R3:=hd_ (h3);have S3:=hd_ (g3);have ZF:=hd_ (ag_ (ao_ wq1 #[.slice none 0 0,.slice none 0 0] 35) bw);clear ba;clear bb bw qS qA;clear h3 g3;(try unfold frV);have qS:=bb_ SU.out (BC.out);have qA:=fun (o:Obj)=>bb_ SU.out (ab_ BC.out (aa_ wq2 o));have M2:=True.intro)))))
   | (go_at_call 29;(first
     | (have mm:=M2;(first
       | (have yy9:=ZF;(with_reducible refine (HQ1 wq2 _ _ _ _ _ _ _ _ _ _ _ _ RX.out SX.out R3.out S3.out).mono ?_);rintro ed wq3 ⟨aq,nq,cq,bq,mq,dq,rfl,hq,gq,bw⟩;have bb:=bw;replace BC:=bt_ BC bb;replace RX:=RX.l_ bb;replace SX:=SX.l_ bb;replace A1:=A1.l_ bb;replace D1:=D1.l_ bb;replace A2:=A2.l_ bb;replace D2:=D2.l_ bb;replace R3:=R3.l_ bb;replace S3:=S3.l_ bb;have RQ:=hd_ (hq);have SQ:=hd_ (gq);replace ZF:=bl_ ZF bw;clear yy9;clear bb bw qS qA;clear hq gq;(try unfold frV);have qS:=bb_ SU.out (BC.out);have qA:=fun (o:Obj)=>bb_ SU.out (ab_ BC.out (aa_ wq3 o));obtain⟨z0,z1⟩:=bw_ ZF.out;have f0:=ah_ ZF.out 0;have f1:=ah_ ZF.out 1;have qC:=bb_ SU.out (ay_ BC.out hzb (.slice aq nq cq) (.slice bq mq dq));have M3:=True.intro)
       | ((with_reducible refine (HQ1 wq2 _ _ _ _ _ _ _ _ _ _ _ _ RX.out SX.out R3.out S3.out).mono ?_);rintro ed wq3 ⟨aq,nq,cq,bq,mq,dq,rfl,hq,gq,bw⟩;have bb:=bw;replace BC:=bt_ BC bb;replace RX:=RX.l_ bb;replace SX:=SX.l_ bb;replace A1:=A1.l_ bb;replace D1:=D1.l_ bb;replace A2:=A2.l_ bb;replace D2:=D2.l_ bb;replace R3:=R3.l_ bb;replace S3:=S3.l_ bb;have RQ:=hd_ (hq);have SQ:=hd_ (gq);clear bb bw qS qA;clear hq gq;(try unfold frV);have qS:=bb_ SU.out (BC.out);have qA:=fun (o:Obj)=>bb_ SU.out (ab_ BC.out (aa_ wq3 o));have M3:=True.intro)
       | (have ba:=aa_ wq2 (.cells #[.slice none 0 0,.slice none 0 0] 35);(with_reducible refine (HQ1 (wq2.alloc (.cells #[.slice none 0 0,.slice none 0 0] 35)) _ _ _ _ _ _ _ _ _ _ _ _ (RX.out.later ba) (SX.out.later ba) (R3.out.later ba) (S3.out.later ba)).mono ?_);have hzb:wr.heap.size≤wq2.heap.size:=BC.out.size;rintro ed wq3 ⟨aq,nq,cq,bq,mq,dq,rfl,hq,gq,bw⟩;have bb:=ab_ ba bw;replace BC:=bt_ BC bb;replace RX:=RX.l_ bb;replace SX:=SX.l_ bb;replace A1:=A1.l_ bb;replace D1:=D1.l_ bb;replace A2:=A2.l_ bb;replace D2:=D2.l_ bb;replace R3:=R3.l_ bb;replace S3:=S3.l_ bb;have RQ:=hd_ (hq);have SQ:=hd_ (gq);have ZF:=hd_ (ag_ (ao_ wq2 #[.slice none 0 0,.slice none 0 0] 35) bw);clear ba;clear bb bw qS qA;clear hq gq;(try unfold frV);have qS:=bb_ SU.out (BC.out);have qA:=fun (o:Obj)=>bb_ SU.out (ab_ BC.out (aa_ wq3 o));obtain⟨z0,z1⟩:=bw_ ZF.out;have f0:=ah_ ZF.out 0;have f1:=ah_ ZF.out 1;have qC:=bb_ SU.out (ay_ BC.out hzb (.slice aq nq cq) (.slice bq mq dq));have M3:=True.intro))))))
  all_goals (
   go_wp2
   go_meet
   (first
     | exact⟨_,aq,nq,cq,bq,mq,dq,rfl,rfl,hd_ (bk_ ZF.out (.slice aq nq cq) (.slice bq mq dq)),hd_ (RQ.out.boxed ZF.out (.slice aq nq cq) (.slice bq mq dq)),hd_ (SQ.out.boxed ZF.out (.slice aq nq cq) (.slice bq mq dq)),hd_ (ay_ BC.out hzb (.slice aq nq cq) (.slice bq mq dq))⟩
     | exact⟨wq3.heap.size,aq,nq,cq,bq,mq,dq,rfl,rfl,hd_ (ao_ wq3 _ 35),hd_ (RQ.out.later (aa_ wq3 _)),hd_ (SQ.out.later (aa_ wq3 _)),hd_ (ab_ BC.out (aa_ wq3 _))⟩))
 case rest=>
  obtain⟨gq,aq,nq,cq,bq,mq,dq,rfl,rfl,BQ,RQ,SQ,HBc⟩:=hcut
  replace HB:=hd_ (ab_ HB.out HBc.out)
  replace BX:=hd_ (ag_ BX.out HBc.out)
  replace RX:=hd_ (RX.out.later HBc.out)
  replace SX:=hd_ (SX.out.later HBc.out)
  clear HBc SU HL2 HQ1 HO2
  go_wp2_with fail
  refine (HRA _).mono ?_
  rintro ed w5 ⟨ah,nh,ch,bh,mh,dh,rfl,h5,g5,bw⟩
  unfold frV
  have ba:=aa_ w5 (.cells #[.bool (zneg qh.num),.slice ah nh ch,.slice bh mh dh] 44)
  have BH:=hd_ (ao_ w5 #[.bool (zneg qh.num),.slice ah nh ch,.slice bh mh dh] 44)
  have HA:=h5.l_ ba
  have HD:=g5.l_ ba
  have bb:=ab_ bw ba
  replace HB:=bt_ HB bb
  replace BX:=bl_ BX bb
  replace RX:=RX.l_ bb
  replace SX:=SX.l_ bb
  replace BQ:=bl_ BQ bb
  replace RQ:=RQ.l_ bb
  replace SQ:=SQ.l_ bb
  clear bw ba bb h5 g5 HRA
  go_upto_region 4 with fail
  generalize w5.alloc (.cells #[.bool (zneg qh.num),.slice ah nh ch,.slice bh mh dh] 44)=wr at *
  have SU:=hd_ (bw_ BX.out)
  go_upto_region 4 with fail
  go_cut [6,7] from 25 to 31 (fun cv ov wx=>∃(g:Nat) (ao:OA_) (no co:Nat) (bo:OA_) (mo do_:Nat),cv=.pointer (some ⟨g,0,none⟩)∧ov=.bool true∧Hid (wx.heap[g]? = some (.cells #[.slice ao no co,.slice bo mo do_] 35 (0,0)))∧Hid (Rw wx ao no co ON)∧Hid (Rw wx bo mo do_ X1)∧Hid (Below wr.heap.size wr wx))
  case first=>
   obtain⟨s0,s1⟩:=bb_ SU.out (Below.refl wr.heap.size wr)
   go_wp2
   clear s0 s1
   have G1:Below wr.heap.size wr wr.drew:=(Below.refl _ _).drew
   have G2:∀o,Below wr.heap.size wr (wr.alloc o).drew:=fun o=>(aa_ wr o).drew
   have qS:=bb_ SU.out (G1)
   have qA:=fun (o:Obj)=>bb_ SU.out (G2 o)
   go_region_held3 (fun w'=>w'.cell? ⟨w3.heap.size,0,none⟩=some (.slice ax nx cx)∧w'.cell? ⟨w3.heap.size,1,none⟩=some (.slice bx mx dx)) (first | with_reducible exact qS | with_reducible exact qA _ | with_reducible exact qC)
    (first
    | (go_at_call 47;(first
      | ((first
        | ((with_reducible refine (HO1 wr.drew).mono ?_);rintro ed wq0 ⟨a1,n1,c1,b1,m1,d1,rfl,h1,g1,bw⟩;have bb:=ab_ G1 bw;have BC:=hd_ bb;replace RX:=RX.l_ bb;replace SX:=SX.l_ bb;have A1:=hd_ (h1);have D1:=hd_ (g1);clear bb bw qS qA;clear h1 g1;(try unfold frV);have qS:=bb_ SU.out (BC.out);have qA:=fun (o:Obj)=>bb_ SU.out (ab_ BC.out (aa_ wq0 o));have M0:=True.intro)
        | ((with_reducible refine (HO1 (wr.alloc (.cells #[.slice none 0 0,.slice none 0 0] 35)).drew).mono ?_);have hzb:wr.heap.size≤wr.heap.size:=Nat.le_refl _;rintro ed wq0 ⟨a1,n1,c1,b1,m1,d1,rfl,h1,g1,bw⟩;have bb:=ab_ (G2 (.cells #[.slice none 0 0,.slice none 0 0] 35)) bw;have BC:=hd_ bb;replace RX:=RX.l_ bb;replace SX:=SX.l_ bb;have A1:=hd_ (h1);have D1:=hd_ (g1);have ZF:=hd_ (ag_ (w:=(wr.alloc (.cells #[.slice none 0 0,.slice none 0 0] 35)).drew) (ao_ wr #[.slice none 0 0,.slice none 0 0] 35) bw);clear bb bw qS qA;clear h1 g1;(try unfold frV);have qS:=bb_ SU.out (BC.out);have qA:=fun (o:Obj)=>bb_ SU.out (ab_ BC.out (aa_ wq0 o));have M0:=True.intro)))))
    | (go_at_call 28;(first
      | (have mm:=M0;(first
        | (have yy9:=ZF;(with_reducible refine (HF1 wq0 _ _ _ _ _ _ A1.out D1.out).mono ?_);rintro ed wq1 ⟨a3,n3,c3,b3,m3,d3,rfl,h3,g3,bw⟩;have bb:=bw;replace BC:=bt_ BC bb;replace RX:=RX.l_ bb;replace SX:=SX.l_ bb;replace A1:=A1.l_ bb;replace D1:=D1.l_ bb;have R3:=hd_ (h3);have S3:=hd_ (g3);replace ZF:=bl_ ZF bw;clear yy9;clear bb bw qS qA;clear h3 g3;(try unfold frV);have qS:=bb_ SU.out (BC.out);have qA:=fun (o:Obj)=>bb_ SU.out (ab_ BC.out (aa_ wq1 o));have M1:=True.intro)
        | ((with_reducible refine (HF1 wq0 _ _ _ _ _ _ A1.out D1.out).mono ?_);rintro ed wq1 ⟨a3,n3,c3,b3,m3,d3,rfl,h3,g3,bw⟩;have bb:=bw;replace BC:=bt_ BC bb;replace RX:=RX.l_ bb;replace SX:=SX.l_ bb;replace A1:=A1.l_ bb;replace D1:=D1.l_ bb;have R3:=hd_ (h3);have S3:=hd_ (g3);clear bb bw qS qA;clear h3 g3;(try unfold frV);have qS:=bb_ SU.out (BC.out);have qA:=fun (o:Obj)=>bb_ SU.out (ab_ BC.out (aa_ wq1 o));have M1:=True.intro)
        | (have ba:=aa_ wq0 (.cells #[.slice none 0 0,.slice none 0 0] 35);(with_reducible refine (HF1 (wq0.alloc (.cells #[.slice none 0 0,.slice none 0 0] 35)) _ _ _ _ _ _ (A1.out.later ba) (D1.out.later ba)).mono ?_);have hzb:wr.heap.size≤wq0.heap.size:=BC.out.size;rintro ed wq1 ⟨a3,n3,c3,b3,m3,d3,rfl,h3,g3,bw⟩;have bb:=ab_ ba bw;replace BC:=bt_ BC bb;replace RX:=RX.l_ bb;replace SX:=SX.l_ bb;replace A1:=A1.l_ bb;replace D1:=D1.l_ bb;have R3:=hd_ (h3);have S3:=hd_ (g3);have ZF:=hd_ (ag_ (ao_ wq0 #[.slice none 0 0,.slice none 0 0] 35) bw);clear ba;clear bb bw qS qA;clear h3 g3;(try unfold frV);have qS:=bb_ SU.out (BC.out);have qA:=fun (o:Obj)=>bb_ SU.out (ab_ BC.out (aa_ wq1 o));have M1:=True.intro)))))
    | (go_at_call 29;(first
      | (have mm:=M1;(first
        | (have yy9:=ZF;(with_reducible refine (HQ2 wq1 _ _ _ _ _ _ _ _ _ _ _ _ R3.out S3.out RX.out SX.out).mono ?_);rintro ed wq2 ⟨ao,no,co,bo,mo,do_,rfl,ho,go_,bw⟩;have bb:=bw;replace BC:=bt_ BC bb;replace RX:=RX.l_ bb;replace SX:=SX.l_ bb;replace A1:=A1.l_ bb;replace D1:=D1.l_ bb;replace R3:=R3.l_ bb;replace S3:=S3.l_ bb;have RO:=hd_ (ho);have SO:=hd_ (go_);replace ZF:=bl_ ZF bw;clear yy9;clear bb bw qS qA;clear ho go_;(try unfold frV);have qS:=bb_ SU.out (BC.out);have qA:=fun (o:Obj)=>bb_ SU.out (ab_ BC.out (aa_ wq2 o));obtain⟨z0,z1⟩:=bw_ ZF.out;have f0:=ah_ ZF.out 0;have f1:=ah_ ZF.out 1;have qC:=bb_ SU.out (ay_ BC.out hzb (.slice ao no co) (.slice bo mo do_));have M2:=True.intro)
        | ((with_reducible refine (HQ2 wq1 _ _ _ _ _ _ _ _ _ _ _ _ R3.out S3.out RX.out SX.out).mono ?_);rintro ed wq2 ⟨ao,no,co,bo,mo,do_,rfl,ho,go_,bw⟩;have bb:=bw;replace BC:=bt_ BC bb;replace RX:=RX.l_ bb;replace SX:=SX.l_ bb;replace A1:=A1.l_ bb;replace D1:=D1.l_ bb;replace R3:=R3.l_ bb;replace S3:=S3.l_ bb;have RO:=hd_ (ho);have SO:=hd_ (go_);clear bb bw qS qA;clear ho go_;(try unfold frV);have qS:=bb_ SU.out (BC.out);have qA:=fun (o:Obj)=>bb_ SU.out (ab_ BC.out (aa_ wq2 o));have M2:=True.intro)
        | (have ba:=aa_ wq1 (.cells #[.slice none 0 0,.slice none 0 0] 35);(with_reducible refine (HQ2 (wq1.alloc (.cells #[.slice none 0 0,.slice none 0 0] 35)) _ _ _ _ _ _ _ _ _ _ _ _ (R3.out.later ba) (S3.out.later ba) (RX.out.later ba) (SX.out.later ba)).mono ?_);have hzb:wr.heap.size≤wq1.heap.size:=BC.out.size;rintro ed wq2 ⟨ao,no,co,bo,mo,do_,rfl,ho,go_,bw⟩;have bb:=ab_ ba bw;replace BC:=bt_ BC bb;replace RX:=RX.l_ bb;replace SX:=SX.l_ bb;replace A1:=A1.l_ bb;replace D1:=D1.l_ bb;replace R3:=R3.l_ bb;replace S3:=S3.l_ bb;have RO:=hd_ (ho);have SO:=hd_ (go_);have ZF:=hd_ (ag_ (ao_ wq1 #[.slice none 0 0,.slice none 0 0] 35) bw);clear ba;clear bb bw qS qA;clear ho go_;(try unfold frV);have qS:=bb_ SU.out (BC.out);have qA:=fun (o:Obj)=>bb_ SU.out (ab_ BC.out (aa_ wq2 o));obtain⟨z0,z1⟩:=bw_ ZF.out;have f0:=ah_ ZF.out 0;have f1:=ah_ ZF.out 1;have qC:=bb_ SU.out (ay_ BC.out hzb (.slice ao no co) (.slice bo mo do_));have M2:=True.intro))))))
   all_goals (
    go_wp2
    go_meet
    (first
      | exact⟨_,ao,no,co,bo,mo,do_,rfl,rfl,hd_ (bk_ ZF.out (.slice ao no co) (.slice bo mo do_)),hd_ (RO.out.boxed ZF.out (.slice ao no co) (.slice bo mo do_)),hd_ (SO.out.boxed ZF.out (.slice ao no co) (.slice bo mo do_)),hd_ (ay_ BC.out hzb (.slice ao no co) (.slice bo mo do_))⟩
      | exact⟨wq2.heap.size,ao,no,co,bo,mo,do_,rfl,rfl,hd_ (ao_ wq2 _ 35),hd_ (RO.out.later (aa_ wq2 _)),hd_ (SO.out.later (aa_ wq2 _)),hd_ (ab_ BC.out (aa_ wq2 _))⟩))
  case rest=>
   obtain⟨go9,ao,no,co,bo,mo,do_,rfl,rfl,BO,RO,SO,HBc⟩:=hcut
   replace HB:=hd_ (ab_ HB.out HBc.out)
   replace BQ:=hd_ (ag_ BQ.out HBc.out)
   replace RQ:=hd_ (RQ.out.later HBc.out)
   replace SQ:=hd_ (SQ.out.later HBc.out)
   replace BH:=hd_ (ag_ BH.out HBc.out)
   replace HA:=hd_ (HA.out.later HBc.out)
   replace HD:=hd_ (HD.out.later HBc.out)
   clear HBc SU HF1 HQ2 HO1 BX RX SX
   go_upto_region 5 with fail
   generalize wc=wr at *
   have SU:=hd_ (bw_ BO.out)
   go_upto_region 5 with fail
   go_cut [8,9] from 32 to 37 (fun cv ov wx=>∃(g:Nat) (ae:OA_) (ne ce:Nat) (be:OA_) (me de:Nat),cv=.pointer (some ⟨g,0,none⟩)∧ov=.bool false∧Hid (wx.heap[g]? = some (.cells #[.bool (zneg qz.num),.slice ae ne ce,.slice be me de] 44 (0,0)))∧Hid (Below wr.heap.size wr wx))
   case first=>
    obtain⟨s0,s1⟩:=bb_ SU.out (Below.refl wr.heap.size wr)
    go_wp2
    clear s0 s1
    have G1:Below wr.heap.size wr wr.drew:=(Below.refl _ _).drew
    have G2:∀o,Below wr.heap.size wr (wr.alloc o).drew:=fun o=>(aa_ wr o).drew
    have qS:=bb_ SU.out (G1)
    have qA:=fun (o:Obj)=>bb_ SU.out (G2 o)
    go_region_held3 (fun w'=>w'.cell? ⟨go9,0,none⟩=some (.slice ao no co)∧w'.cell? ⟨go9,1,none⟩=some (.slice bo mo do_)) (first | with_reducible exact qS | with_reducible exact qA _ | with_reducible exact qC)
     (first
     | (go_at_call 47;(first
       | ((first
         | ((with_reducible refine (HO0 wr.drew).mono ?_);rintro ed wq0 ⟨a1,n1,c1,b1,m1,d1,rfl,h1,g1,bw⟩;have bb:=ab_ G1 bw;have BC:=hd_ bb;replace RO:=RO.l_ bb;replace SO:=SO.l_ bb;have A1:=hd_ (h1);have D1:=hd_ (g1);clear bb bw qS qA;clear h1 g1;(try unfold frV);have qS:=bb_ SU.out (BC.out);have qA:=fun (o:Obj)=>bb_ SU.out (ab_ BC.out (aa_ wq0 o));have M0:=True.intro)
         | ((with_reducible refine (HO0 (wr.alloc (.cells #[.bool false,.slice none 0 0,.slice none 0 0] 44)).drew).mono ?_);have hzb:wr.heap.size≤wr.heap.size:=Nat.le_refl _;rintro ed wq0 ⟨a1,n1,c1,b1,m1,d1,rfl,h1,g1,bw⟩;have bb:=ab_ (G2 (.cells #[.bool false,.slice none 0 0,.slice none 0 0] 44)) bw;have BC:=hd_ bb;replace RO:=RO.l_ bb;replace SO:=SO.l_ bb;have A1:=hd_ (h1);have D1:=hd_ (g1);have ZF:=hd_ (ag_ (w:=(wr.alloc (.cells #[.bool false,.slice none 0 0,.slice none 0 0] 44)).drew) (ao_ wr #[.bool false,.slice none 0 0,.slice none 0 0] 44) bw);clear bb bw qS qA;clear h1 g1;(try unfold frV);have qS:=bb_ SU.out (BC.out);have qA:=fun (o:Obj)=>bb_ SU.out (ab_ BC.out (aa_ wq0 o));have M0:=True.intro)))))
     | (go_at_call 16;(first
       | (have mm:=M0;(first
         | (have yy9:=ZF;(with_reducible refine (HEV wq0 _ _ _ _ _ _ _ _ _ _ _ _ RO.out SO.out A1.out D1.out).mono ?_);rintro ed wq1 ⟨ae,ne,ce,be,me,de,rfl,he,ge,bw⟩;have bb:=bw;replace BC:=bt_ BC bb;replace RO:=RO.l_ bb;replace SO:=SO.l_ bb;replace A1:=A1.l_ bb;replace D1:=D1.l_ bb;have AE:=hd_ (he);have DE:=hd_ (ge);replace ZF:=bl_ ZF bw;clear yy9;clear bb bw qS qA;clear he ge;(try unfold frV);have qS:=bb_ SU.out (BC.out);have qA:=fun (o:Obj)=>bb_ SU.out (ab_ BC.out (aa_ wq1 o));obtain⟨z0,z1,z2⟩:=av_ ZF.out;have f0:=ah_ ZF.out 0;have f1:=ah_ ZF.out 1;have f2:=ah_ ZF.out 2;have qC:=bb_ SU.out (a3_ BC.out hzb (.bool (zneg qz.num)) (.slice ae ne ce) (.slice be me de));have M1:=True.intro)
         | ((with_reducible refine (HEV wq0 _ _ _ _ _ _ _ _ _ _ _ _ RO.out SO.out A1.out D1.out).mono ?_);rintro ed wq1 ⟨ae,ne,ce,be,me,de,rfl,he,ge,bw⟩;have bb:=bw;replace BC:=bt_ BC bb;replace RO:=RO.l_ bb;replace SO:=SO.l_ bb;replace A1:=A1.l_ bb;replace D1:=D1.l_ bb;have AE:=hd_ (he);have DE:=hd_ (ge);clear bb bw qS qA;clear he ge;(try unfold frV);have qS:=bb_ SU.out (BC.out);have qA:=fun (o:Obj)=>bb_ SU.out (ab_ BC.out (aa_ wq1 o));have M1:=True.intro)
         | (have ba:=aa_ wq0 (.cells #[.bool false,.slice none 0 0,.slice none 0 0] 44);(with_reducible refine (HEV (wq0.alloc (.cells #[.bool false,.slice none 0 0,.slice none 0 0] 44)) _ _ _ _ _ _ _ _ _ _ _ _ (RO.out.later ba) (SO.out.later ba) (A1.out.later ba) (D1.out.later ba)).mono ?_);have hzb:wr.heap.size≤wq0.heap.size:=BC.out.size;rintro ed wq1 ⟨ae,ne,ce,be,me,de,rfl,he,ge,bw⟩;have bb:=ab_ ba bw;replace BC:=bt_ BC bb;replace RO:=RO.l_ bb;replace SO:=SO.l_ bb;replace A1:=A1.l_ bb;replace D1:=D1.l_ bb;have AE:=hd_ (he);have DE:=hd_ (ge);have ZF:=hd_ (ag_ (ao_ wq0 #[.bool false,.slice none 0 0,.slice none 0 0] 44) bw);clear ba;clear bb bw qS qA;clear he ge;(try unfold frV);have qS:=bb_ SU.out (BC.out);have qA:=fun (o:Obj)=>bb_ SU.out (ab_ BC.out (aa_ wq1 o));obtain⟨z0,z1,z2⟩:=av_ ZF.out;have f0:=ah_ ZF.out 0;have f1:=ah_ ZF.out 1;have f2:=ah_ ZF.out 2;have qC:=bb_ SU.out (a3_ BC.out hzb (.bool (zneg qz.num)) (.slice ae ne ce) (.slice be me de));have M1:=True.intro))))))
    all_goals (
     go_wp2
     go_meet
     (first
       | exact⟨_,ae,ne,ce,be,me,de,rfl,rfl,hd_ (bu_ ZF.out (.bool (zneg qz.num)) (.slice ae ne ce) (.slice be me de)),hd_ (a3_ BC.out hzb (.bool (zneg qz.num)) (.slice ae ne ce) (.slice be me de))⟩
       | exact⟨wq1.heap.size,ae,ne,ce,be,me,de,rfl,rfl,hd_ (ao_ wq1 _ 44),hd_ (ab_ BC.out (aa_ wq1 _))⟩))
   case rest=>
    obtain⟨ge9,ae,ne,ce,be,me,de,rfl,rfl,BE,HBc⟩:=hcut
    replace HB:=hd_ (ab_ HB.out HBc.out)
    replace BQ:=hd_ (ag_ BQ.out HBc.out)
    replace RQ:=hd_ (RQ.out.later HBc.out)
    replace SQ:=hd_ (SQ.out.later HBc.out)
    replace BH:=hd_ (ag_ BH.out HBc.out)
    replace HA:=hd_ (HA.out.later HBc.out)
    replace HD:=hd_ (HD.out.later HBc.out)
    replace BO:=hd_ (ag_ BO.out HBc.out)
    replace RO:=hd_ (RO.out.later HBc.out)
    replace SO:=hd_ (SO.out.later HBc.out)
    clear HBc SU HEV HO0 BE
    go_upto_region 6 with fail
    generalize wc=wr at *
    obtain⟨s0,s1,s2,s3,s4,s5,s6⟩:=ek_ BQ.out BH.out BO.out
    go_wp2
    clear s0 s1 s2 s3 s4 s5 s6
    replace HB:=bt_ HB (dw_ wr)
    replace BQ:Hid (wr.drew.heap[gq]? = _):=hd_ BQ.out
    replace BH:Hid (wr.drew.heap[w5.heap.size]? = _):=hd_ BH.out
    replace BO:Hid (wr.drew.heap[go9]? = _):=hd_ BO.out
    replace RQ:=RQ.l_ (dw_ wr)
    replace SQ:=SQ.l_ (dw_ wr)
    replace HA:=HA.l_ (dw_ wr)
    replace HD:=HD.l_ (dw_ wr)
    replace RO:=RO.l_ (dw_ wr)
    replace SO:=SO.l_ (dw_ wr)
    have pSn:=ek_ BQ.out BH.out BO.out
    go_region_held3 (fun w'=>w'.cell? ⟨gq,0,none⟩=some (.slice aq nq cq)∧w'.cell? ⟨gq,1,none⟩=some (.slice bq mq dq)∧w'.cell? ⟨w5.heap.size,0,none⟩=some (.bool (zneg qh.num))∧w'.cell? ⟨w5.heap.size,1,none⟩=some (.slice ah nh ch)∧w'.cell? ⟨w5.heap.size,2,none⟩=some (.slice bh mh dh)∧w'.cell? ⟨go9,0,none⟩=some (.slice ao no co)∧w'.cell? ⟨go9,1,none⟩=some (.slice bo mo do_)) (exact pSn)
     (first
     | (go_at_call 28;(first
       | (refine (HFH _ _ _ _ _ _ _ HA.out HD.out).mono ?_;rintro e wp1 ⟨a7,n7,c7,b7,m7,d7,rfl,h7,g7,b⟩;replace HB:=bt_ HB b;replace BQ:=bl_ BQ b;replace BH:=bl_ BH b;replace BO:=bl_ BO b;replace RQ:=RQ.l_ b;replace SQ:=SQ.l_ b;replace HA:=HA.l_ b;replace HD:=HD.l_ b;replace RO:=RO.l_ b;replace SO:=SO.l_ b;have R7:=hd_ h7;have S7:=hd_ g7;clear h7 g7;clear b;clear pSn;have pSn:=ek_ BQ.out BH.out BO.out;have pM1:=True.intro)))
     | (go_at_call 24;(first
       | (have pm1:=pM1;refine (HSM _ _ _ _ _ _ _ _ _ _ _ _ _ RQ.out SQ.out R7.out S7.out).mono ?_;rintro e wp2 ⟨rfl,b⟩;replace HB:=bt_ HB b;replace BQ:=bl_ BQ b;replace BH:=bl_ BH b;replace BO:=bl_ BO b;replace RQ:=RQ.l_ b;replace SQ:=SQ.l_ b;replace HA:=HA.l_ b;replace HD:=HD.l_ b;replace RO:=RO.l_ b;replace SO:=SO.l_ b;clear R7;clear S7;clear b;clear pSn;have pSn:=ek_ BQ.out BH.out BO.out;clear pM1 pm1;have pM2:=True.intro)))
     | (go_at_call 23;(first
       | (have pm2:=pM2;refine (HZR _ _ _ _ _ _ _ RO.out SO.out).mono ?_;rintro e wp3 ⟨rfl,b⟩;replace HB:=bt_ HB b;replace BQ:=bl_ BQ b;replace BH:=bl_ BH b;replace BO:=bl_ BO b;replace RQ:=RQ.l_ b;replace SQ:=SQ.l_ b;replace HA:=HA.l_ b;replace HD:=HD.l_ b;replace RO:=RO.l_ b;replace SO:=SO.l_ b;clear b;clear pSn;have pSn:=ek_ BQ.out BH.out BO.out;clear pM2 pm2;have pM3:=True.intro))))
    all_goals (
     go_wp2
     go_ret
     exact⟨rfl,HB.out⟩)
def Cpr (p q:LR_):Prop:=∃s t:LR_,∀x,an_ x s * an_ x p+an_ x t * an_ x q=1
theorem Cpr.sum{p q:List Rat}(h:Cpr p q):∃s t,peq (padd (pmul s p) (pmul t q)) [1]:=by
 obtain⟨s,t,h⟩:=h
 exact⟨s,t,ak_ fun x=>by rw[ap_,ac_,ac_,ba_];exact h x⟩
theorem Rf.coprime{u v:List Rat}(h:Rf u v):Cpr u v:=h.eval_cop
theorem Cpr.symm{p q:List Rat}(h:Cpr p q):Cpr q p:=by
 obtain⟨s,t,h⟩:=h
 exact⟨t,s,fun x=>by have:=h x;grind⟩
theorem Cpr.mul{p q r:List Rat}(h:Cpr p q)(k:Cpr p r):Cpr p (pmul q r):=by
 obtain⟨s,t,h⟩:=h
 obtain⟨s',t',k⟩:=k
 refine ⟨padd (pmul (pmul s s') p) (padd (pmul (pmul s t') r) (pmul (pmul t q) s')),pmul t t',fun x=>?_⟩
 have h1:=h x
 have k1:=k x
 have e:(an_ x s * an_ x p+an_ x t * an_ x q) * (an_ x s' * an_ x p+an_ x t' * an_ x r)=1:=by rw[h1,k1];decide +kernel
 simp only[ap_,ac_]
 rw[←e];grind
theorem Cpr.part{p q k r:List Rat}(h:Cpr p q)(e:peq q (pmul k r)):Cpr p k∧Cpr p r:=by
 obtain⟨s,t,h⟩:=h
 refine ⟨⟨s,pmul t r,fun x=>?_⟩,⟨s,pmul t k,fun x=>?_⟩⟩
 ·have h1:=h x
  have e1:=ae_ x e
  rw[ac_] at e1 ⊢
  rw[e1] at h1
  rw[←h1];grind
 ·have h1:=h x
  have e1:=ae_ x e
  rw[ac_] at e1 ⊢
  rw[e1] at h1
  rw[←h1];grind
theorem Cpr.of{p q p' q':List Rat}(h:Cpr p q)(hp:peq p p')(hq:peq q q'):Cpr p' q':=by
 obtain⟨s,t,h⟩:=h
 exact⟨s,t,fun x=>by rw[←ae_ x hp,←ae_ x hq];exact h x⟩
theorem Cpr.shift{p q p' k:List Rat}(h:Cpr p q)(e:peq p' (padd p (pmul k q))):Cpr p' q:=by
 obtain⟨s,t,h⟩:=h
 refine ⟨s,psub t (pmul s k),fun x=>?_⟩
 have h1:=h x
 have e1:=ae_ x e
 rw[ap_,ac_] at e1
 rw[e1,bg_,ac_,←h1];grind
theorem cop_one(p:LR_):Cpr p [1]:=⟨[],[1],fun x=>by rw[ba_];show 0 * _+_=_;grind⟩
theorem Cpr.pow{p q:List Rat}(h:Cpr p q):∀k,Cpr p (ppow q k)
 | 0=>cop_one p
 | k+1=>(h.pow k).mul h
theorem gcd_cop{U V g x y:List Rat}(hg:common U V g)(hg0:plen g≠0)(hx:peq U (pmul x g))(hy:peq V (pmul y g)):Cpr x y:=by
 obtain⟨s,t,hst⟩:=hg.2.2
 have hb:peq (padd (pmul s x) (pmul t y)) [1]:=dl_ hg0 (ak_ fun z=>by
  have e1:=ae_ z hst
  have e2:=ae_ z hx
  have e3:=ae_ z hy
  rw[ap_,ac_,ac_] at e1
  rw[ac_] at e2 e3
  rw[ac_,ac_,ba_,ap_,ac_,ac_];grind)
 exact⟨s,t,fun z=>by have:=ae_ z hb;rwa [ap_,ac_,ac_,ba_] at this⟩
def Mon1 (p:LR_):Prop:=plen p≠0∧co p (plen p - 1)=1
theorem Mon1.of{p q:List Rat}(h:Mon1 p)(e:peq p q):Mon1 q:=⟨by rw[←am_ e];exact h.1,by rw[←am_ e,←e];exact h.2⟩
theorem Rf.monic{u v:List Rat}(h:Rf u v):Mon1 v:=⟨h.v0,h.one⟩
theorem nm_:Mon1 [1]:=⟨by rw[d6_ (by decide)];decide,by rw[d6_ (by decide)];rfl⟩
theorem Mon1.mul{p q:List Rat}(h:Mon1 p)(k:Mon1 q):Mon1 (pmul p q):=by
 have h0:=h.1
 have k0:=k.1
 obtain⟨e1,e2⟩:=em_ (a:=p) (b:=q) (m:=plen p - 1) (n:=plen q - 1) (by omega) (by omega)
 refine ⟨by omega,?_⟩
 rw[e1,Nat.add_sub_cancel,e2,h.2,k.2];decide +kernel
theorem Mon1.left{p a g:List Rat}(h:Mon1 p)(hg:Mon1 g)(e:peq p (pmul a g)):Mon1 a:=by
 have ha:plen a≠0:=fun e0=>h.1 (by rw[am_ e,am_ (au_ (ce_ e0) (peq.refl g))];rfl)
 have g0:=hg.1
 obtain⟨e1,e2⟩:=em_ (a:=a) (b:=g) (m:=plen a - 1) (n:=plen g - 1) (by omega) (by omega)
 refine ⟨ha,?_⟩
 have h2:=(h.of e).2
 rw[e1,Nat.add_sub_cancel,e2,hg.2,Rat.mul_one] at h2
 exact h2
theorem Mon1.pow{p:List Rat}(h:Mon1 p):∀k,Mon1 (ppow p k)
 | 0=>nm_
 | k+1=>(h.pow k).mul h
theorem isGcd.monic{U V g:List Rat}(h:isGcd U V g)(hg:plen g≠0):Mon1 g:=⟨hg,h.2 _ (by omega)⟩
theorem Rf.of_cop{u v U V:List Rat}(h:Cpr u v)(hv:Mon1 v)(eu:peq U u)(ev:peq V v)(nu:aj_ U=U)(nv:aj_ V=V):Rf U V:=
 ⟨nu,nv,(hv.of ev.symm).1,(hv.of ev.symm).2,(h.of eu.symm ev.symm).sum⟩
structure PartP (U V:LR_) (h K:Nat) (x y g:LR_):Prop where
 nx:aj_ x=x
 ny:aj_ y=y
 ng:aj_ g=g
 dx:peq U (pmul x g)
 dy:peq V (pmul y g)
 gcd:isGcd U V g
 sz:Fz g g h K
theorem PartP.g0{U V x y g:List Rat}{h K:Nat}(p:PartP U V h K x y g)(hV:plen V≠0):plen g≠0:=fun e=>hV (by rw[am_ p.dy,am_ (au_ (peq.refl y) (ce_ e)),am_ (dk_ y)];rfl)
theorem PartP.Cpr{U V x y g:List Rat}{h K:Nat}(p:PartP U V h K x y g)(hV:plen V≠0):Go.Proofs.YtocebjbjnfammaaGreat.Cpr x y:=gcd_cop p.gcd.1 (p.g0 hV) p.dx p.dy
theorem PartP.rf{U V x y g:List Rat}{h K:Nat}(p:PartP U V h K x y g)(hV:Mon1 V):Rf x y:=by
 have hg:=p.gcd.monic (p.g0 hV.1)
 exact Rf.of_cop (p.Cpr hV.1) (hV.left hg p.dy) (peq.refl _) (peq.refl _) p.nx p.ny
theorem PartP.isF{U V x y g:List Rat}{h K:Nat}(p:PartP U V h K x y g)(hV:Mon1 V):isF U V x y:=by
 refine ⟨p.rf hV,fun e=>absurd e hV.1,fun _=>ak_ fun z=>?_⟩
 have e1:=ae_ z p.dx
 have e2:=ae_ z p.dy
 rw[ac_] at e1 e2
 rw[ac_,ac_,e1,e2];grind
theorem Fz.pair{A A' B B':List Rat}{h k s t:Nat}(f:Fz A A' h s)(g:Fz B B' k t):Fz A B (max h k) (s+t):=by
 obtain⟨a1,a2,c,c1,c2,c3,c4⟩:=f
 obtain⟨b1,b2,d,d1,d2,d3,d4⟩:=g
 refine ⟨by omega,by omega,c * d,Nat.mul_pos c1 d1,by rw[d7_];exact Nat.mul_le_mul c2 d2,fun i=>?_,fun i=>?_⟩
 ·obtain⟨z,e1,e2⟩:=c3 i
  refine ⟨(d:Int) * z,?_,?_⟩
  ·rw[ai_] at e1 ⊢
   rw[Rat.intCast_mul,Rat.intCast_natCast,←e1,Rat.natCast_mul];grind
  ·rw[Int.natAbs_mul,Int.natAbs_natCast,d7_,Nat.mul_comm]
   exact Nat.mul_le_mul e2 d2
 ·obtain⟨z,e1,e2⟩:=d3 i
  refine ⟨(c:Int) * z,?_,?_⟩
  ·rw[ai_] at e1 ⊢
   rw[Rat.intCast_mul,Rat.intCast_natCast,←e1,Rat.natCast_mul];grind
  ·rw[Int.natAbs_mul,Int.natAbs_natCast,d7_]
   exact Nat.mul_le_mul c2 e2
theorem Fz.same{U V U' V':List Rat}{h s h':Nat}(f:Fz U V h s)(eU:peq U U')(eV:peq V V')(l:U'.length≤h')(m:V'.length≤h'):Fz U' V' h' s:=by
 obtain⟨a,b,c,c1,c2,c3,c4⟩:=f
 exact⟨l,m,c,c1,c2,c3.congr (bs_ _ eU),c4.congr (bs_ _ eV)⟩
theorem Fz.norms{U V:List Rat}{h s:Nat}(f:Fz U V h s):Fz (aj_ U) (aj_ V) h s:=f.same (ar_ U).symm (ar_ V).symm (Nat.le_trans (bc_ U) f.lu) (Nat.le_trans (bc_ V) f.lv)
theorem isF_add{u v x y x1 y1 g up up2 g2 q D:List Rat}{h k K K':Nat}(hu:Rf u v)(hx:Rf x y)(p:PartP v y h K x1 y1 g)(hup:peq up (padd (pmul u y1) (pmul x x1)))(p2:PartP up g k K' up2 g2 q)(hD:peq D (pmul (pmul x1 y1) g2))(nD:aj_ D=D) :
 isF (padd (pmul u y) (pmul x v)) (pmul v y) up2 D:=by
 have mv:=hu.monic
 have my:=hx.monic
 have mg:=p.gcd.monic (p.g0 my.1)
 have mx1:=mv.left mg p.dx
 have my1:=my.left mg p.dy
 have mq:=p2.gcd.monic (p2.g0 mg.1)
 have mg2:=mg.left mq p2.dy
 have c1:Cpr up x1:=by
  have a1:Cpr u x1:=(hu.coprime.part p.dx).1
  have a2:Cpr (pmul u y1) x1:=(a1.symm.mul (p.Cpr my.1)).symm
  exact a2.shift hup
 have c2:Cpr up y1:=by
  have a1:Cpr x y1:=(hx.coprime.part p.dy).1
  have a2:Cpr (pmul x x1) y1:=(a1.symm.mul (p.Cpr my.1).symm).symm
  exact a2.shift (k:=u) (hup.trans (ak_ fun z=>by rw[ap_,ap_];grind))
 have c3:Cpr up2 x1:=(c1.symm.part p2.dx).1.symm
 have c4:Cpr up2 y1:=(c2.symm.part p2.dx).1.symm
 have c5:=p2.Cpr mg.1
 refine ⟨Rf.of_cop ((c3.mul c4).mul c5) ((mx1.mul my1).mul mg2) (peq.refl _) hD p2.nx nD,fun e=>absurd e (mv.mul my).1,fun _=>ak_ fun z=>?_⟩
 have e1:=ae_ z p.dx
 have e2:=ae_ z p.dy
 have e3:=ae_ z hup
 have e4:=ae_ z p2.dx
 have e5:=ae_ z p2.dy
 have e6:=ae_ z hD
 simp only[ap_,ac_] at e1 e2 e3 e4 e5 e6 ⊢
 rw[e1,e2,e6]
 have e7:an_ z up2 * an_ z q=an_ z u * an_ z y1+an_ z x * an_ z x1:=by rw[←e4];exact e3
 rw[e5]
 generalize an_ z up2=U at *
 generalize an_ z q=Q at *
 generalize an_ z u=A at *
 generalize an_ z x=B at *
 generalize an_ z x1=C at *
 generalize an_ z y1=E at *
 generalize an_ z g2=G at *
 have e8:(A * (E * (G * Q))+B * (C * (G * Q))) * (C * E * G)=(A * E+B * C) * (G * Q * (C * E * G)):=by grind
 first
  | (have e9:U * (C * (G * Q) * (E * (G * Q)))=(U * Q) * (G * Q * (C * E * G)):=by grind
     rw[e9,e8,e7])
  | grind
theorem isF_mul{u v x y u1 y1 g x1 v1 g' A D:List Rat}{h k K K':Nat}(hu:Rf u v)(hx:Rf x y)(p:PartP u y h K u1 y1 g)(p':PartP x v k K' x1 v1 g')(hA:peq A (pmul u1 x1))(nA:aj_ A=A)(hD:peq D (pmul v1 y1))(nD:aj_ D=D) :
 isF (pmul u x) (pmul v y) A D:=by
 have mv:=hu.monic
 have my:=hx.monic
 have mg:=p.gcd.monic (p.g0 my.1)
 have mg':=p'.gcd.monic (p'.g0 mv.1)
 have my1:=my.left mg p.dy
 have mv1:=mv.left mg' p'.dy
 have c1:Cpr u1 v1:=((hu.coprime.part p'.dy).1.symm.part p.dx).1.symm
 have c2:Cpr x1 y1:=((hx.coprime.part p.dy).1.symm.part p'.dx).1.symm
 have c3:=p.Cpr my.1
 have c4:=p'.Cpr mv.1
 refine ⟨Rf.of_cop ((c1.mul c3).symm.mul (c4.mul c2).symm).symm (mv1.mul my1) hA hD nA nD,fun e=>absurd e (mv.mul my).1,fun _=>ak_ fun z=>?_⟩
 have e1:=ae_ z p.dx
 have e2:=ae_ z p.dy
 have e3:=ae_ z p'.dx
 have e4:=ae_ z p'.dy
 have e5:=ae_ z hA
 have e6:=ae_ z hD
 simp only[ac_] at e1 e2 e3 e4 e5 e6 ⊢
 rw[e1,e2,e3,e4,e5,e6];grind
theorem ra_{a:List Rat}(h:2≤plen a):plen (be_ a)≠0:=fun e=>by
 have h1:=plen_zero.1 e (plen a - 2)
 rw[c7_] at h1
 rcases Rat.mul_eq_zero.1 h1 with h2 | h2
 ·have:=Rat.natCast_inj.1 (h2.trans (show (0:Rat)=((0:Nat):Rat) from rfl));omega
 ·exact cv_ (a:=a) (n:=plen a - 2+1) (by omega) h2
theorem dvd_mult{c rest h D:List Rat}(k:Cpr c rest)(e:peq D (pmul rest h))(d:pdvd c D):pdvd c h:=by
 obtain⟨s,t,k⟩:=k
 obtain⟨j,d⟩:=d
 refine ⟨padd (pmul s h) (pmul t j),ak_ fun x=>?_⟩
 have k1:=k x
 have e1:=ae_ x e
 have d1:=ae_ x d
 rw[ac_] at e1 d1
 rw[ac_,ap_,ac_,ac_]
 have h1:an_ x h * (an_ x s * an_ x c+an_ x t * an_ x rest)=an_ x h:=by rw[k1,Rat.mul_one]
 rw[←h1]
 have h2:an_ x h * (an_ x s * an_ x c+an_ x t * an_ x rest)=an_ x s * an_ x h * an_ x c+an_ x t * (an_ x rest * an_ x h):=by grind
 rw[h2,←e1,d1]
 first | (rw[h1] at h2;grind) | grind
theorem dvd_most{c:List Rat}(hc:2≤plen c):∀(n:Nat) (D:LR_),plen D≤n→plen D≠0→∃m w,peq D (pmul (ppow c m) w)∧¬pdvd c w:=by
 intro n
 induction n with
 | zero=>intro D h1 h2;exact absurd (Nat.le_zero.1 h1) h2
 | succ n ih=>
   intro D h1 h2
   by_cases hd:pdvd c D
   ·obtain⟨k,hk⟩:=hd
    have hk0:plen k≠0:=fun e=>h2 (by rw[am_ hk,am_ (au_ (ce_ e) (peq.refl c))];rfl)
    have hl:=am_ hk
    rw[cy_ hk0 (by omega)] at hl
    obtain⟨m,w,e,hw⟩:=ih k (by omega) hk0
    refine ⟨m+1,w,ak_ fun x=>?_,hw⟩
    have e1:=ae_ x hk
    have e2:=ae_ x e
    rw[ac_] at e1 e2
    rw[e1,e2,ac_]
    show _=an_ x (pmul (ppow c m) c) * _
    rw[ac_];grind
   ·exact⟨0,D,ak_ fun x=>by rw[ac_];show _=an_ x [1] * _;rw[ba_,Rat.one_mul],hd⟩
theorem nx_(c:LR_):∀m:Nat,peq (be_ (ppow c (m+1))) (af_ ((m+1:Nat):Rat) (pmul (ppow c m) (be_ c)))
 | 0=>ak_ fun x=>by
   have h0:peq (ppow c 1) c:=ak_ fun y=>by
    show an_ y (pmul [1] c)=_
    rw[ac_,ba_,Rat.one_mul]
   rw[ae_ x (g4_ h0),al_,ac_]
   show _=((1:Nat):Rat) * (an_ x [1] * _)
   rw[ba_]
   have h1:((1:Nat):Rat)=1:=rfl
   rw[h1];grind
 | m+1=>ak_ fun x=>by
   have h1:=ae_ x (e3_ (ppow c (m+1)) c)
   have h2:=ae_ x (nx_ c m)
   have h3:an_ x (be_ (ppow c (m+1+1)))=an_ x (be_ (pmul (ppow c (m+1)) c)):=rfl
   have h4:an_ x (ppow c (m+1))=an_ x (ppow c m) * an_ x c:=by
    show an_ x (pmul (ppow c m) c)=_
    rw[ac_]
   have h5:((m+1+1:Nat):Rat)=((m+1:Nat):Rat)+1:=by rw[Rat.natCast_add];rfl
   simp only[ap_,ac_,al_] at h1 h2 ⊢
   rw[h3,h1,h2,h4,h5]
   generalize ((m+1:Nat):Rat)=a at *
   grind
theorem rest_all{D rest h slope:List Rat}(hD:plen D≠0)(e:peq D (pmul rest h))(e':peq (be_ D) (pmul slope h)):∀(n:Nat) (c:LR_),plen c≤n→pdvd c D→Cpr c rest→plen c=1:=by
 intro n
 induction n with
 | zero=>
   intro c h1 h2 _
   obtain⟨k,hk⟩:=h2
   exact absurd (by rw[am_ hk,am_ (au_ (peq.refl k) (ce_ (Nat.le_zero.1 h1))),am_ (dk_ k)];rfl) hD
 | succ n ih=>
   intro c h1 h2 h3
   have hc0:=(pdvd.len h2 hD).1
   by_cases hc:plen c=1
   ·exact hc
   exfalso
   have hc2:2≤plen c:=by omega
   have hcc:Cpr c (be_ c):=by
    obtain⟨f,hf⟩:=fr_ _ (aj_ c) (aj_ (be_ c)) (Nat.le_refl _) (a2_ _) (a2_ _)
    have hf':=hf.of (ar_ c) (ar_ (be_ c)) (peq.refl f)
    have hl:=pdvd.len hf'.2.1 (ra_ hc2)
    have hle:=fi_ c
    obtain⟨j,hj⟩:=hf'.1
    have hf1:plen f=1:=ih f (by omega) (pdvd.trans hf'.1 h2) ((h3.symm.part hj).2.symm)
    obtain⟨s,t,hst⟩:=hf'.2.2
    have ht:=cv_ (a:=f) (n:=0) hf1
    have hfe:∀x,an_ x f=co f 0:=fun x=>by
     rw[ae_ x (show peq f [co f 0] from fun i=>by
      cases i with
      | zero=>rfl
      | succ i=>rw[bq_ (a:=f) (by omega),bm_,dp_]),ba_]
    refine ⟨af_ (1 / co f 0) s,af_ (1 / co f 0) t,fun x=>?_⟩
    have h8:=ae_ x hst
    rw[ap_,ac_,ac_,hfe x] at h8
    have h9:1 / co f 0 * co f 0=1:=Rat.div_mul_cancel ht
    rw[al_,al_]
    generalize 1 / co f 0=d at *
    rw[h8] at h9
    rw[←h9];grind
   obtain⟨m,w,hm,hw⟩:=dvd_most hc2 _ D (Nat.le_refl _) hD
   cases m with
   | zero=>
     refine hw ?_
     obtain⟨j,hj⟩:=h2
     refine ⟨j,peq.trans (ak_ fun x=>?_) hj⟩
     rw[ae_ x hm,ac_]
     show _=an_ x [1] * _
     rw[ba_,Rat.one_mul]
   | succ m=>
     have hp0:plen (ppow c m)≠0:=nq_ (by omega) m
     have hd:pdvd (ppow c (m+1)) h:=dvd_mult ((h3.symm.pow (m+1)).symm) e ⟨w,hm.trans (hg_ _ _)⟩
     obtain⟨j,hj⟩:=hd
     have hkey:peq (af_ ((m+1:Nat):Rat) (pmul (be_ c) w)) (pmul c (psub (pmul slope j) (be_ w))):=dl_ hp0 (ak_ fun x=>by
      have g1:=ae_ x (e3_ (ppow c (m+1)) w)
      have g2:=ae_ x (g4_ hm)
      have g3:=ae_ x (nx_ c m)
      have g4:=ae_ x e'
      have g5:=ae_ x hj
      have g6:an_ x (ppow c (m+1))=an_ x (ppow c m) * an_ x c:=by
       show an_ x (pmul (ppow c m) c)=_
       rw[ac_]
      simp only[ap_,bg_,ac_,al_] at g1 g2 g3 g4 g5 ⊢
      rw[g1,g3,g6] at g2
      rw[g4,g5,g6] at g2
      generalize ((m+1:Nat):Rat)=a at *
      grind)
     refine hw ?_
     obtain⟨s,t,hst⟩:=hcc
     have ha:((m+1:Nat):Rat)≠0:=fun e0=>by have:=Rat.natCast_inj.1 (e0.trans (show (0:Rat)=((0:Nat):Rat) from rfl));omega
     refine ⟨padd (pmul s w) (af_ (1 / ((m+1:Nat):Rat)) (pmul t (psub (pmul slope j) (be_ w)))),ak_ fun x=>?_⟩
     have g1:=hst x
     have g2:=ae_ x hkey
     have g3:1 / ((m+1:Nat):Rat) * ((m+1:Nat):Rat)=1:=Rat.div_mul_cancel ha
     simp only[ap_,bg_,ac_,al_] at g2 ⊢
     generalize ((m+1:Nat):Rat)=a at *
     generalize 1 / a=b at *
     generalize an_ x slope * an_ x j - an_ x (be_ w)=Z at *
     have g4:an_ x (be_ c) * an_ x w=b * (an_ x c * Z):=by
      rw[←g2]
      have:b * (a * (an_ x (be_ c) * an_ x w))=b * a * (an_ x (be_ c) * an_ x w):=by grind
      rw[this,g3,Rat.one_mul]
     have g5:an_ x w * (an_ x s * an_ x c+an_ x t * an_ x (be_ c))=an_ x w:=by rw[g1,Rat.mul_one]
     rw[←g5]
     have g6:an_ x w * (an_ x s * an_ x c+an_ x t * an_ x (be_ c))=an_ x s * an_ x w * an_ x c+an_ x t * (an_ x (be_ c) * an_ x w):=by grind
     rw[g6,g4]
     first | (rw[g5] at g6;grind) | grind
theorem rest_cop{D rest h slope up:List Rat}(hD:plen D≠0)(e:peq D (pmul rest h))(e':peq (be_ D) (pmul slope h))(hu:Cpr up rest):Cpr up D:=by
 obtain⟨f,hf⟩:=fr_ _ (aj_ up) (aj_ D) (Nat.le_refl _) (a2_ _) (a2_ _)
 have hf':=hf.of (ar_ up) (ar_ D) (peq.refl f)
 obtain⟨j,hj⟩:=hf'.1
 have hf1:plen f=1:=rest_all hD e e' _ f (Nat.le_refl _) hf'.2.1 ((hu.symm.part hj).2.symm)
 obtain⟨s,t,hst⟩:=hf'.2.2
 have ht:=cv_ (a:=f) (n:=0) hf1
 have hfe:∀x,an_ x f=co f 0:=fun x=>by
  rw[ae_ x (show peq f [co f 0] from fun i=>by
   cases i with
   | zero=>rfl
   | succ i=>rw[bq_ (a:=f) (by omega),bm_,dp_]),ba_]
 refine ⟨af_ (1 / co f 0) s,af_ (1 / co f 0) t,fun x=>?_⟩
 have h8:=ae_ x hst
 rw[ap_,ac_,ac_,hfe x] at h8
 have h9:1 / co f 0 * co f 0=1:=Rat.div_mul_cancel ht
 rw[al_,al_]
 generalize 1 / co f 0=d at *
 rw[h8] at h9
 rw[←h9];grind
theorem isF_dup{u v slope rest g A D:List Rat}{h K:Nat}(hu:Rf u v)(p:PartP (be_ v) v h K slope rest g)(hA:peq A (psub (pmul (be_ u) rest) (pmul u slope)))(nA:aj_ A=A)(hD:peq D (pmul v rest))(nD:aj_ D=D) :
 isF (dup u v) (pmul v v) A D:=by
 have mv:=hu.monic
 have mg:=p.gcd.monic (p.g0 mv.1)
 have mr:=mv.left mg p.dy
 have c1:Cpr slope rest:=p.Cpr mv.1
 have c2:Cpr u rest:=(hu.coprime.part p.dy).1
 have c3:Cpr (af_ (-1) (pmul u slope)) rest:=by
  obtain⟨s,t,h9⟩:=(c2.symm.mul c1.symm).symm
  refine ⟨af_ (-1) s,t,fun x=>?_⟩
  have h8:=h9 x
  rw[ac_] at h8
  rw[al_,al_,ac_,←h8];grind
 have c4:Cpr A rest:=c3.shift (k:=be_ u) (hA.trans (ak_ fun x=>by rw[bg_,ap_,al_];grind))
 have c5:Cpr A v:=rest_cop mv.1 p.dy p.dx c4
 refine ⟨Rf.of_cop (c5.mul c4) (mv.mul mr) (peq.refl _) hD nA nD,fun e=>absurd e (mv.mul mv).1,fun _=>ak_ fun z=>?_⟩
 have e1:=ae_ z p.dx
 have e2:=ae_ z p.dy
 have e3:=ae_ z hA
 have e4:=ae_ z hD
 unfold dup
 simp only[ac_,bg_] at e1 e2 e3 e4 ⊢
 rw[e3,e4,e1]
 generalize an_ z (be_ u)=a at *
 generalize an_ z u=b at *
 generalize an_ z slope=c at *
 generalize an_ z rest=d at *
 generalize an_ z g=f at *
 rw[e2];grind
theorem inv_room{z:Int}{S:Nat}(h:z.natAbs≤pw S):qlen (1 / (z:Rat))≤S+2:=by
 have h1:((1:Int):Rat)=1:=rfl
 rw[←h1]
 exact c3_ (by have:=ex_ S;omega) h
theorem nat_nz{c:Nat}(h:0 < c):((c:Nat):Rat)≠0:=fun e=>by have h9:c=0:=Rat.natCast_inj.1 (e.trans rfl);omega
def LstQuo (A g:LR_) (w:World) (e:Ending) (w':World):Prop:=∃(a:OA_) (n c:Nat) (q:LR_) (b:OA_) (m d:Nat),e=.returned (.tuple #[.slice a n c,.slice b m d,.bool true])∧Rw w' a n c q∧aj_ q=q∧peq A (pmul q g)∧Below w.heap.size w w'
def if_ (U V:LR_) (h K:Nat) (w:World) (e:Ending) (w':World):Prop:=∃(a:OA_) (n c:Nat) (x:LR_) (b:OA_) (m d:Nat) (y:LR_) (a':OA_) (n' c':Nat) (g:LR_),e=.returned (.tuple #[.slice a n c,.slice b m d,.slice a' n' c'])∧Rw w' a n c x∧Rw w' b m d y∧Rw w' a' n' c' g∧PartP U V h K x y g∧Below w.heap.size w w'
theorem pz_(S:PolySaid){w:World}{a b:Option Addr}{n c m d h s S0:Nat}{A g:List Rat}{cc:Nat}{z:Int}(hA:Pv w a n c A 1900000000)(hg:Rw w b m d g)(hn:n≤h)(hm:m≤h)(hh:h≤50)(c0:0 < cc)(cs:cc≤pw s)(cA:Ints (af_ ((cc:Nat):Rat) A) (pw s))(hsS:s≤S0)(gq:∀q∈g,qlen q≤1900000000)(g0:plen g≠0)(z0:z≠0)(zs:z.natAbs≤pw (S0+2))(zg:Ints (af_ (z:Rat) g) (pw (S0+2)))(hd:pdvd g A)(hT:(4 * h+24) * (S0+5)≤1900000000) :
 Calls Tryz.prog 107 #[.slice a n c,.slice b m d] w (LstQuo A g w):=by
 obtain⟨L,h1,rfl,h3⟩:=hA
 obtain⟨M,k1,k2,k3⟩:=hg.thin gq
 subst k2
 have hq1:qlen (1 / ((cc:Nat):Rat))≤s+2:=dg_ (z:=1) (t:=s) (by have:=ex_ s;omega) cs
 have hq2:qlen (1 / (z:Rat))≤S0+2+2:=inv_room zs
 have hb:4 * (qlen (1 / ((cc:Nat):Rat))+qlen (1 / (z:Rat))+(n+4) * (S0+2+3))≤(4 * h+24) * (S0+5):=by
  have e1:(n+4) * (S0+2+3)≤(h+4) * (S0+5):=Nat.mul_le_mul (by omega) (by omega)
  have e2:(4 * h+24) * (S0+5)=4 * ((h+4) * (S0+5))+8 * (S0+5):=by rw[show 4 * h+24=4 * (h+4)+8 by omega,Nat.add_mul,Nat.mul_assoc]
  omega
 refine (S.div_more a n c L b m d M _ _ _ _ (S0+2) _ w h1 k1 (by omega) (by omega) h3 k3 (cA.mono (b1_ (by omega))) zg (d2_ (nat_nz c0) _) (d2_ (ej_ z0) _) hb hT (hd_ g0)).mono fun e w' h9=>?_
 obtain⟨a1,n1,c1,q,a2,n2,c2,r,g1,g2,g3,g4,g5,g6,g7,g8,g9⟩:=h9
 have hr:=hd.rest g4
 exact⟨a1,n1,c1,q,a2,n2,c2,g1,g2,g5,g4.1.trans (ak_ fun x=>by rw[ap_,ae_ x (ce_ hr)];show _+(0:Rat)=_;grind),g9⟩
theorem eq_(S:PolySaid)(a:OA_)(n c:Nat)(U:LR_)(b:OA_)(m d:Nat)(V:LR_)(h s:Nat)(w:World)(hU:Pv w a n c U 1900000000)(hV:Pv w b m d V 1900000000)(hz:Fz U V h s)(hk:Pok h s)(hV0:plen V≠0) :
 Calls Tryz.prog 62 #[.slice a n c,.slice b m d] w (if_ U V h ((s+1) * (2 * h+1)+2) w):=by
 obtain⟨hh,hT⟩:=hk
 have hn:n≤h:=by rw[←hU.len];exact hz.lu
 have hm:m≤h:=by rw[←hV.len];exact hz.lv
 obtain⟨cc,c0,cs,cU,cV⟩:=hz.form
 obtain⟨S1,hS1⟩:∃S1,(s+1) * (2 * h+1)=S1:=⟨_,rfl⟩
 rw[hS1] at hT ⊢
 obtain⟨S0,hS0⟩:∃S0,(s+1) * (plen U+plen V+1)=S0:=⟨_,rfl⟩
 have lU:=a4_ U
 have lV:=a4_ V
 have hS01:S0≤S1:=by
  rw[←hS0,←hS1]
  exact Nat.mul_le_mul_left _ (by have:=hz.lu;have:=hz.lv;omega)
 have hsS:s≤S0:=by rw[←hS0,Nat.mul_add,Nat.mul_one];omega
 have hT0:(4 * h+24) * (S0+5)≤1900000000:=Nat.le_trans (Nat.mul_le_mul_left _ (by omega)) hT
 have hsm:24 * (S0+5)≤1900000000:=Nat.le_trans (Nat.mul_le_mul_right _ (by omega)) hT0
 have hGC:∀w':World,Pv w' a n c U 1900000000→Pv w' b m d V 1900000000→Calls Tryz.prog 106 #[.slice a n c,.slice b m d] w' (on_ U V (S0+2) w'):=fun w' g1 g2=>by
  obtain⟨L,h1,h2,h3⟩:=g1
  obtain⟨M,k1,k2,k3⟩:=g2
  have h9:=S.gcd_more a n c L b m d M cc s S0 h w' h1 k1 hn hm (by omega) h3 k3 c0 cs (by rw[h2];exact cU) (by rw[k2];exact cV) (by rw[h2,k2];exact hS0) (Nat.le_trans (Nat.mul_le_mul (by omega) (by omega)) hT0)
  rwa [h2,k2] at h9
 have HU:=hd_ hU
 have HV:=hd_ hV
 have HN:=hd_ (And.intro hn (And.intro hm (And.intro hh (And.intro hsS (And.intro hS01 (And.intro hT0 hsm))))))
 have HC:=hd_ (And.intro c0 (And.intro cs (And.intro cU cV)))
 have HV0:=hd_ hV0
 have HLV:=hd_ (show plen V≤h by have:=hz.lv;omega)
 clear hU hV hz hT hn hm hh hS0 hS1 hS01 hsS hT0 hsm lU lV c0 cs cU cV hV0
 go_enter Tryz.func62,Tryz.ntmps62
 go_wp2_with fail
 refine (hGC _ HU.out HV.out).mono ?_
 rintro e w1 ⟨a3,n3,c3,g,rfl,h7,hg1,hg2,hg3,⟨z,hz0,hz1,hz2⟩,bw⟩
 obtain⟨hn,hm,hh,hsS,hS01,hT0,hsm⟩:=HN.out
 obtain⟨c0,cs,cU,cV⟩:=HC.out
 have hgl:=hg1.1.2.1.len HV0.out
 have hlg:g.length=n3:=h7.len
 have hgn:=az_ hg2
 have hgz:Fz g g h (S1+2):=by
  have hp:pw (S0+2)≤pw (S1+2):=b1_ (by omega)
  have hl:=HLV.out
  exact⟨by omega,by omega,z.natAbs,by omega,Nat.le_trans hz1 hp,hz2.abs.mono hp,hz2.abs.mono hp⟩
 have hq9:∀q∈g,qlen q≤1900000000:=fun q hq=>Nat.le_trans (hg3 q hq) (by omega)
 have hn3:n3≤h:=by have:=HLV.out;omega
 have HDU:∀w':World,Pv w' a n c U 1900000000→Rw w' a3 n3 c3 g→Calls Tryz.prog 107 #[.slice a n c,.slice a3 n3 c3] w' (LstQuo U g w'):=fun w' g1 g2=>pz_ S g1 g2 hn hn3 hh c0 cs cU hsS hq9 hgl.1 hz0 hz1 hz2 hg1.1.1 hT0
 have HDV:∀w':World,Pv w' b m d V 1900000000→Rw w' a3 n3 c3 g→Calls Tryz.prog 107 #[.slice b m d,.slice a3 n3 c3] w' (LstQuo V g w'):=fun w' g1 g2=>pz_ S g1 g2 hm hn3 hh c0 cs cV hsS hq9 hgl.1 hz0 hz1 hz2 hg1.1.2.1 hT0
 have HB:=hd_ bw
 replace HU:=HU.l_ bw
 replace HV:=HV.l_ bw
 have GG:=hd_ h7
 have HG1:=hd_ (And.intro hg1 (And.intro hg2 hgz))
 clear bw h7 hg1 hg2 hg3 hz0 hz1 hz2 hgl hlg hgn hgz hq9 hn3 hn hm hh hsS hS01 hT0 hsm c0 cs cU cV HN HC HV0 HLV hGC
 go_wp2_with fail
 refine (HDU _ HU.out GG.out).mono ?_
 rintro e w2 ⟨a4,n4,c4,x,b4,m4,d4,rfl,h4,hx1,hx2,bw⟩
 replace HB:=bt_ HB bw
 replace HV:=HV.l_ bw
 replace GG:=GG.l_ bw
 have XX:=hd_ h4
 have HX:=hd_ (And.intro hx1 hx2)
 clear bw h4 hx1 hx2 HU HDU
 go_wp2_with fail
 refine (HDV _ HV.out GG.out).mono ?_
 rintro e w3 ⟨a5,n5,c5,y,b5,m5,d5,rfl,h5,hy1,hy2,bw⟩
 replace HB:=bt_ HB bw
 replace GG:=GG.l_ bw
 replace XX:=XX.l_ bw
 have YY:=hd_ h5
 have HY:=hd_ (And.intro hy1 hy2)
 clear bw h5 hy1 hy2 HV HDV
 go_wp2
 go_ret3
 exact⟨a4,n4,c4,x,a5,n5,c5,y,a3,n3,c3,g,rfl,XX.out,YY.out,GG.out,⟨HX.out.1,HY.out.1,HG1.out.2.1,HX.out.2,HY.out.2,HG1.out.1,HG1.out.2.2⟩,HB.out⟩
end Go.Proofs.YtocebjbjnfammaaGreat
