import Derived.Test.YtocebjbjnfammaaGreatTG13
import Derived.Test.YtocebjbjnfammaaGreatTG11
import Derived.Test.YtocebjbjnfammaaGreatTG5
import Derived.Deep.RegionHeld3
import Derived.Deep.CutRange
import Derived.Deep.RegionWith
import Derived.Test.YtocebjbjnfammaaGreatTG1
set_option maxRecDepth 4096
set_option maxHeartbeats 16000000
namespace Go.Proofs.YtocebjbjnfammaaGreat
open Go.RowKit
theorem a6_{w w':World}{p q:Addr}{x y:Value}(h:w.cell? p=some x∧w.cell? q=some y)(hb:Below w.heap.size w w'):w'.cell? p=some x∧w'.cell? q=some y:=⟨cell_later hb h.1,cell_later hb h.2⟩
theorem cm_{w w':World}{p q r s t:Addr}{x y z u v:Value}(h:w.cell? p=some x∧w.cell? q=some y∧w.cell? r=some z∧w.cell? s=some u∧w.cell? t=some v)(hb:Below w.heap.size w w'):w'.cell? p=some x∧w'.cell? q=some y∧w'.cell? r=some z∧w'.cell? s=some u∧w'.cell? t=some v:=⟨cell_later hb h.1,cell_later hb h.2.1,cell_later hb h.2.2.1,cell_later hb h.2.2.2.1,cell_later hb h.2.2.2.2⟩
theorem fe_{w:World}{A0 A1 A2:Nat}{x0 x1 y0 y1 y2 z0 z1:Value}{t0 t1 t2:TypeId}(h0:w.heap[A0]? = some (.cells #[x0,x1] t0 (0,0)))(h1:w.heap[A1]? = some (.cells #[y0,y1,y2] t1 (0,0)))(h2:w.heap[A2]? = some (.cells #[z0,z1] t2 (0,0))) :
 w.cell? ⟨A0,0,none⟩=some x0∧w.cell? ⟨A0,1,none⟩=some x1∧w.cell? ⟨A1,0,none⟩=some y0∧w.cell? ⟨A1,1,none⟩=some y1∧w.cell? ⟨A1,2,none⟩=some y2∧w.cell? ⟨A2,0,none⟩=some z0∧w.cell? ⟨A2,1,none⟩=some z1:=⟨ad_ h0 0,ad_ h0 1,ad_ h1 0,ad_ h1 1,ad_ h1 2,ad_ h2 0,ad_ h2 1⟩
theorem sa_(S:RatfSaid)(F:FracSaid)(w:World):Calls Tryz.prog 9 #[] w (bf_ (.bool true) w):=by
 have k2:qlen 1≤2:=b4_ (z:=1) (by decide)
 have k0:qlen 0≤2:=b4_ (z:=0) (by decide)
 have k9:qlen 2≤2:=b4_ (z:=2) (by decide)
 have l1:∀q∈([1]:LR_),qlen q≤2:=fun q hq=>by
  simp only[List.mem_cons,List.not_mem_nil,or_false] at hq
  rw[hq];exact k2
 have l2:∀q∈([0,1]:LR_),qlen q≤2:=fun q hq=>by
  simp only[List.mem_cons,List.not_mem_nil,or_false] at hq
  rcases hq with rfl | rfl <;> assumption
 have l3:∀q∈([0,2]:LR_),qlen q≤2:=fun q hq=>by
  simp only[List.mem_cons,List.not_mem_nil,or_false] at hq
  rcases hq with rfl | rfl <;> assumption
 have l4:∀q∈([1 / 2]:LR_),qlen q≤2:=fun q hq=>by
  simp only[List.mem_cons,List.not_mem_nil,or_false] at hq
  rw[hq];exact rs_
 have z21:=jt_ l2 l1 (by decide) (by decide)
 have z31:=jt_ l3 l1 (by decide) (by decide)
 have z11:=jt_ l1 l1 (by decide) (by decide)
 have z12:=jt_ l1 l2 (by decide) (by decide)
 have z41:=jt_ l4 l1 (by decide) (by decide)
 have r2:Rf [0,1] [1]:=n9_ (by decide +kernel)
 have r3:Rf [0,2] [1]:=n9_ (by decide +kernel)
 have r1:Rf [1] [1]:=n9_ (by decide +kernel)
 have r4:Rf [1 / 2] [1]:=n9_ (by decide +kernel)
 have hfok:Fok 2 9:=⟨by decide,by decide,by decide⟩
 have hfok8:Fok 2 8:=⟨by decide,by decide,by decide⟩
 have hfok2:Fok2 2 8 2 8:=by unfold Fok2 Fok;decide
 obtain⟨q0,hq0⟩:∃q:Rat,((0:Int):Rat)=q:=⟨_,rfl⟩
 obtain⟨q1,hq1⟩:∃q:Rat,((1:Int):Rat)=q:=⟨_,rfl⟩
 obtain⟨q2,hq2⟩:∃q:Rat,((2:Int):Rat)=q:=⟨_,rfl⟩
 have e0:q0=0:=by rw[←hq0];rfl
 have e1:q1=1:=by rw[←hq1];rfl
 have e2:q2=2:=by rw[←hq2];rfl
 have HO0:∀w':World,Calls Tryz.prog 47 #[.int .i64 0] w' (LstQ q0 w'):=fun w'=>hq0▸F.of 0 w' (by decide)
 have HO1:∀w':World,Calls Tryz.prog 47 #[.int .i64 1] w' (LstQ q1 w'):=fun w'=>hq1▸F.of 1 w' (by decide)
 have HO2:∀w':World,Calls Tryz.prog 47 #[.int .i64 2] w' (LstQ q2 w'):=fun w'=>hq2▸F.of 2 w' (by decide)
 obtain⟨qh,hqh⟩:∃q:Rat,((1:Int):Rat) / ((2:Int):Rat)=q:=⟨_,rfl⟩
 have eh:qh=1 / 2:=by rw[←hqh];rfl
 have HRA:∀w':World,Calls Tryz.prog 48 #[.int .i64 1,.int .i64 2] w' (en_ qh (.bool true) w'):=fun w'=>by
  have h9:=F.ratio 1 2 w' (by decide) (by decide)
  rw[hqh,decide_eq_true (by decide:(2:Int)≠0)] at h9
  exact h9
 have lw:∀{q:Rat} {w':World} {a:Option Addr} {n c:Nat} {b:Option Addr} {m d:Nat},qlen q≤2→Wd w' a n c (dg q.num.natAbs)→Wd w' b m d (dg q.den)→Fr w' (frV (zneg q.num) a n c b m d) q 2:=fun {q w' a n c b m d} h1 h2 h3=>Fr.right h2 h3 (by rw[←h2.len];exact Nat.le_trans (a5_ _) h1) (by rw[←h3.len];exact Nat.le_trans (a4_ _) h1)
 have y0:qlen q0≤2:=by rw[e0];exact k0
 have y1:qlen q1≤2:=by rw[e1];exact k2
 have y2:qlen q2≤2:=by rw[e2];exact k9
 have yh:qlen qh≤2:=by rw[eh];exact rs_
 obtain⟨X1,hX1⟩:∃l:LR_,[0,1]=l:=⟨_,rfl⟩
 obtain⟨X2,hX2⟩:∃l:LR_,[0,2]=l:=⟨_,rfl⟩
 obtain⟨ON,hON⟩:∃l:LR_,[1]=l:=⟨_,rfl⟩
 obtain⟨XH,hXH⟩:∃l:LR_,[1 / 2]=l:=⟨_,rfl⟩
 obtain⟨qz,hqz⟩:∃q:Rat,(0:Rat)=q:=⟨_,rfl⟩
 have HL1:∀(w':World) (a1:OA_) (n1 c1:Nat) (b1:OA_) (m1 d1:Nat) (a2:OA_) (n2 c2:Nat) (b2:OA_) (m2 d2:Nat),Wd w' a1 n1 c1 (dg q0.num.natAbs)→Wd w' b1 m1 d1 (dg q0.den)→Wd w' a2 n2 c2 (dg q1.num.natAbs)→Wd w' b2 m2 d2 (dg q1.den)→Calls Tryz.prog 46 #[.agg #[.bool (zneg q0.num),.slice a1 n1 c1,.slice b1 m1 d1],.agg #[.bool (zneg q1.num),.slice a2 n2 c2,.slice b2 m2 d2]] w' (LstX X1 ON w'):=fun w' a1 n1 c1 b1 m1 d1 a2 n2 c2 b2 m2 d2 h1 h2 h3 h4=>by
  have h9:=S.line (frV (zneg q0.num) a1 n1 c1 b1 m1 d1) q0 (frV (zneg q1.num) a2 n2 c2 b2 m2 d2) q1 2 w' (lw y0 h1 h2) (lw y1 h3 h4) hfok
  rw[e0,e1,hX1,hON] at h9
  rw[hX1,hON] at r2
  rw[e0,e1]
  exact h9.mono fun _ _ h8=>h8.just r2.isF
 have HL2:∀(w':World) (a1:OA_) (n1 c1:Nat) (b1:OA_) (m1 d1:Nat) (a2:OA_) (n2 c2:Nat) (b2:OA_) (m2 d2:Nat),Wd w' a1 n1 c1 (dg q0.num.natAbs)→Wd w' b1 m1 d1 (dg q0.den)→Wd w' a2 n2 c2 (dg q2.num.natAbs)→Wd w' b2 m2 d2 (dg q2.den)→Calls Tryz.prog 46 #[.agg #[.bool (zneg q0.num),.slice a1 n1 c1,.slice b1 m1 d1],.agg #[.bool (zneg q2.num),.slice a2 n2 c2,.slice b2 m2 d2]] w' (LstX X2 ON w'):=fun w' a1 n1 c1 b1 m1 d1 a2 n2 c2 b2 m2 d2 h1 h2 h3 h4=>by
  have h9:=S.line (frV (zneg q0.num) a1 n1 c1 b1 m1 d1) q0 (frV (zneg q2.num) a2 n2 c2 b2 m2 d2) q2 2 w' (lw y0 h1 h2) (lw y2 h3 h4) hfok
  rw[e0,e2,hX2,hON] at h9
  rw[hX2,hON] at r3
  rw[e0,e2]
  exact h9.mono fun _ _ h8=>h8.just r3.isF
 have HF1:∀(w':World) (a1:OA_) (n1 c1:Nat) (b1:OA_) (m1 d1:Nat),Wd w' a1 n1 c1 (dg q1.num.natAbs)→Wd w' b1 m1 d1 (dg q1.den)→Calls Tryz.prog 28 #[.agg #[.bool (zneg q1.num),.slice a1 n1 c1,.slice b1 m1 d1]] w' (LstX ON ON w'):=fun w' a1 n1 c1 b1 m1 d1 h1 h2=>by
  have h9:=S.of (frV (zneg q1.num) a1 n1 c1 b1 m1 d1) q1 2 w' (lw y1 h1 h2) hfok
  rw[e1,hON] at h9
  rw[hON] at r1
  rw[e1]
  exact h9.mono fun _ _ h8=>h8.just r1.isF
 have HFH:∀(w':World) (a1:OA_) (n1 c1:Nat) (b1:OA_) (m1 d1:Nat),Wd w' a1 n1 c1 (dg qh.num.natAbs)→Wd w' b1 m1 d1 (dg qh.den)→Calls Tryz.prog 28 #[.agg #[.bool (zneg qh.num),.slice a1 n1 c1,.slice b1 m1 d1]] w' (LstX XH ON w'):=fun w' a1 n1 c1 b1 m1 d1 h1 h2=>by
  have h9:=S.of (frV (zneg qh.num) a1 n1 c1 b1 m1 d1) qh 2 w' (lw yh h1 h2) hfok
  rw[eh,hXH,hON] at h9
  rw[hXH,hON] at r4
  rw[eh]
  exact h9.mono fun _ _ h8=>h8.just r4.isF
 have HQ1:∀(w':World) (a1:OA_) (n1 c1:Nat) (b1:OA_) (m1 d1:Nat) (a2:OA_) (n2 c2:Nat) (b2:OA_) (m2 d2:Nat),Rw w' a1 n1 c1 X1→Rw w' b1 m1 d1 ON→Rw w' a2 n2 c2 X2→Rw w' b2 m2 d2 ON→Calls Tryz.prog 29 #[.agg #[.slice a1 n1 c1,.slice b1 m1 d1],.agg #[.slice a2 n2 c2,.slice b2 m2 d2]] w' (LstXV XH ON (.bool true) w'):=fun w' a1 n1 c1 b1 m1 d1 a2 n2 c2 b2 m2 d2 h1 h2 h3 h4=>by
  subst hX1 hX2 hON hXH
  have h9:=S.quo a1 n1 c1 b1 m1 d1 [0,1] [1] 2 8 a2 n2 c2 b2 m2 d2 [0,2] [1] 2 8 w' (Fv.right h1 h2 r2 z21 (by decide)) (Fv.right h3 h4 r3 z31 (by decide)) hfok2
  rw[decide_eq_true (by simp:([0,2]:LR_)≠[])] at h9
  exact h9.mono fun _ _ h8=>h8.just ex15_quo
 have HQ2:∀(w':World) (a1:OA_) (n1 c1:Nat) (b1:OA_) (m1 d1:Nat) (a2:OA_) (n2 c2:Nat) (b2:OA_) (m2 d2:Nat),Rw w' a1 n1 c1 ON→Rw w' b1 m1 d1 ON→Rw w' a2 n2 c2 X1→Rw w' b2 m2 d2 ON→Calls Tryz.prog 29 #[.agg #[.slice a1 n1 c1,.slice b1 m1 d1],.agg #[.slice a2 n2 c2,.slice b2 m2 d2]] w' (LstXV ON X1 (.bool true) w'):=fun w' a1 n1 c1 b1 m1 d1 a2 n2 c2 b2 m2 d2 h1 h2 h3 h4=>by
  subst hX1 hON
  have h9:=S.quo a1 n1 c1 b1 m1 d1 [1] [1] 2 8 a2 n2 c2 b2 m2 d2 [0,1] [1] 2 8 w' (Fv.right h1 h2 r1 z11 (by decide)) (Fv.right h3 h4 r2 z21 (by decide)) hfok2
  rw[decide_eq_true (by simp:([0,1]:LR_)≠[])] at h9
  exact h9.mono fun _ _ h8=>h8.just ex15_over
 have HEV:∀(w':World) (a1:OA_) (n1 c1:Nat) (b1:OA_) (m1 d1:Nat) (a2:OA_) (n2 c2:Nat) (b2:OA_) (m2 d2:Nat),Rw w' a1 n1 c1 ON→Rw w' b1 m1 d1 X1→Wd w' a2 n2 c2 (dg q0.num.natAbs)→Wd w' b2 m2 d2 (dg q0.den)→Calls Tryz.prog 16 #[.agg #[.slice a1 n1 c1,.slice b1 m1 d1],.agg #[.bool (zneg q0.num),.slice a2 n2 c2,.slice b2 m2 d2]] w' (en_ qz (.bool false) w'):=fun w' a1 n1 c1 b1 m1 d1 a2 n2 c2 b2 m2 d2 h1 h2 h3 h4=>by
  subst hX1 hON hqz
  exact S.eval_no a1 n1 c1 b1 m1 d1 [1] [0,1] 2 8 (frV (zneg q0.num) a2 n2 c2 b2 m2 d2) q0 2 w' (Fv.right h1 h2 s2_ z12 (by decide)) (lw y0 h3 h4) hfok8 (by decide) (by rw[e0];decide +kernel)
 have HSM:∀(w':World) (a1:OA_) (n1 c1:Nat) (b1:OA_) (m1 d1:Nat) (a2:OA_) (n2 c2:Nat) (b2:OA_) (m2 d2:Nat),Rw w' a1 n1 c1 XH→Rw w' b1 m1 d1 ON→Rw w' a2 n2 c2 XH→Rw w' b2 m2 d2 ON→Calls Tryz.prog 24 #[.agg #[.slice a1 n1 c1,.slice b1 m1 d1],.agg #[.slice a2 n2 c2,.slice b2 m2 d2]] w' (bf_ (.bool true) w'):=fun w' a1 n1 c1 b1 m1 d1 a2 n2 c2 b2 m2 d2 h1 h2 h3 h4=>by
  subst hXH hON
  have h9:=S.same a1 n1 c1 b1 m1 d1 [1 / 2] [1] 2 8 a2 n2 c2 b2 m2 d2 [1 / 2] [1] 2 8 w' (Fv.right h1 h2 r4 z41 (by decide)) (Fv.right h3 h4 r4 z41 (by decide)) hfok8 hfok8 (by decide)
  rw[decide_eq_true ⟨rfl,rfl⟩] at h9
  exact h9
 have HZR:∀(w':World) (a1:OA_) (n1 c1:Nat) (b1:OA_) (m1 d1:Nat),Rw w' a1 n1 c1 ON→Rw w' b1 m1 d1 X1→Calls Tryz.prog 23 #[.agg #[.slice a1 n1 c1,.slice b1 m1 d1]] w' (bf_ (.bool false) w'):=fun w' a1 n1 c1 b1 m1 d1 h1 h2=>by
  subst hX1 hON
  have h9:=S.zero a1 n1 c1 b1 m1 d1 [1] [0,1] 2 8 w' (Fv.right h1 h2 s2_ z12 (by decide)) hfok8
  rw[decide_eq_false (by simp:¬([1]:LR_)=[])] at h9
  exact h9
 have HB:=hd_ (Below.refl w.heap.size w)
 clear k2 k0 k9 l1 l2 l3 l4 z21 z31 z11 z12 z41 r2 r3 r1 r4 hfok hfok8 hfok2 hq0 hq1 hq2 e0 e1 e2 hqh eh lw y0 y1 y2 yh hX1 hX2 hON hXH hqz
 go_enter Tryz.func9,Tryz.ntmps9
 go_wp2_with fail
 refine (HO0 _).mono ?_
 rintro ed w1 ⟨a1,n1,c1,b1,m1,d1,rfl,h1,g1,bw⟩
 replace HB:=bt_ HB bw
 have A1:=hd_ h1
 have D1:=hd_ g1
 unfold frV
 clear bw h1 g1
 go_wp2_with fail
 refine (HO1 _).mono ?_
 rintro ed w2 ⟨a2,n2,c2,b2,m2,d2,rfl,h2,g2,bw⟩
 replace HB:=bt_ HB bw
 replace A1:=A1.l_ bw
 replace D1:=D1.l_ bw
 have A2:=hd_ h2
 have D2:=hd_ g2
 unfold frV
 clear bw h2 g2
 go_wp2_with fail
 refine (HL1 _ _ _ _ _ _ _ _ _ _ _ _ _ A1.out D1.out A2.out D2.out).mono ?_
 rintro ed w3 ⟨ax,nx,cx,bx,mx,dx,rfl,h3,g3,bw⟩
 replace HB:=bt_ HB bw
 have ba:=aa_ w3 (.cells #[.slice ax nx cx,.slice bx mx dx] 35)
 have BX:=hd_ (ai_ w3 #[.slice ax nx cx,.slice bx mx dx] 35)
 have RX:=h3.l_ ba
 have SX:=g3.l_ ba
 replace HB:=bt_ HB ba
 clear bw ba h3 g3 A1 D1 A2 D2 HL1
 go_upto_region 2 with fail
 generalize w3.alloc (.cells #[.slice ax nx cx,.slice bx mx dx] 35)=wr at *
 have SU:=hd_ (bd_ BX.out)
 go_upto_region 2 with fail
 go_cut [2,3] from 13 to 20 (fun cv ov wx=>∃(g:Nat) (aq:OA_) (nq cq:Nat) (bq:OA_) (mq dq:Nat),cv=.pointer (some ⟨g,0,none⟩)∧ov=.bool true∧Hid (wx.heap[g]? = some (.cells #[.slice aq nq cq,.slice bq mq dq] 35 (0,0)))∧Hid (Rw wx aq nq cq XH)∧Hid (Rw wx bq mq dq ON)∧Hid (Below wr.heap.size wr wx))
 case first=>
  obtain⟨s0,s1⟩:=a6_ SU.out (Below.refl wr.heap.size wr)
  go_wp2
  clear s0 s1
  have G1:Below wr.heap.size wr wr.drew:=(Below.refl _ _).drew
  have G2:∀o,Below wr.heap.size wr (wr.alloc o).drew:=fun o=>(aa_ wr o).drew
  have qS:=a6_ SU.out (G1)
  have qA:=fun (o:Obj)=>a6_ SU.out (G2 o)
  go_region_held3 (fun w'=>w'.cell? ⟨w3.heap.size,0,none⟩=some (.slice ax nx cx)∧w'.cell? ⟨w3.heap.size,1,none⟩=some (.slice bx mx dx)) (first | with_reducible exact qS | with_reducible exact qA _ | with_reducible exact qC)
   (first
   | (go_at_call 47;(first
     | (have mm:=M0;(first
       | (have yy9:=ZF;(with_reducible refine (HO2 wq0).mono ?_);rintro ed wq1 ⟨a2,n2,c2,b2,m2,d2,rfl,h2,g2,bw⟩;have bb:=bw;replace BC:=bt_ BC bb;replace RX:=RX.l_ bb;replace SX:=SX.l_ bb;replace A1:=A1.l_ bb;replace D1:=D1.l_ bb;have A2:=hd_ (h2);have D2:=hd_ (g2);replace ZF:=bl_ ZF bw;clear yy9;clear bb bw qS qA;clear h2 g2;(try unfold frV);have qS:=a6_ SU.out (BC.out);have qA:=fun (o:Obj)=>a6_ SU.out (ab_ BC.out (aa_ wq1 o));have M1:=True.intro)
       | ((with_reducible refine (HO2 wq0).mono ?_);rintro ed wq1 ⟨a2,n2,c2,b2,m2,d2,rfl,h2,g2,bw⟩;have bb:=bw;replace BC:=bt_ BC bb;replace RX:=RX.l_ bb;replace SX:=SX.l_ bb;replace A1:=A1.l_ bb;replace D1:=D1.l_ bb;have A2:=hd_ (h2);have D2:=hd_ (g2);clear bb bw qS qA;clear h2 g2;(try unfold frV);have qS:=a6_ SU.out (BC.out);have qA:=fun (o:Obj)=>a6_ SU.out (ab_ BC.out (aa_ wq1 o));have M1:=True.intro)
       | (have ba:=aa_ wq0 (.cells #[.slice none 0 0,.slice none 0 0] 35);(with_reducible refine (HO2 (wq0.alloc (.cells #[.slice none 0 0,.slice none 0 0] 35))).mono ?_);have hzb:wr.heap.size≤wq0.heap.size:=BC.out.size;rintro ed wq1 ⟨a2,n2,c2,b2,m2,d2,rfl,h2,g2,bw⟩;have bb:=ab_ ba bw;replace BC:=bt_ BC bb;replace RX:=RX.l_ bb;replace SX:=SX.l_ bb;replace A1:=A1.l_ bb;replace D1:=D1.l_ bb;have A2:=hd_ (h2);have D2:=hd_ (g2);have ZF:=hd_ (ac_ (ai_ wq0 #[.slice none 0 0,.slice none 0 0] 35) bw);clear ba;clear bb bw qS qA;clear h2 g2;(try unfold frV);have qS:=a6_ SU.out (BC.out);have qA:=fun (o:Obj)=>a6_ SU.out (ab_ BC.out (aa_ wq1 o));have M1:=True.intro)))
     | ((first
       | ((with_reducible refine (HO0 wr.drew).mono ?_);rintro ed wq0 ⟨a1,n1,c1,b1,m1,d1,rfl,h1,g1,bw⟩;have bb:=ab_ G1 bw;have BC:=hd_ bb;replace RX:=RX.l_ bb;replace SX:=SX.l_ bb;have A1:=hd_ (h1);have D1:=hd_ (g1);clear bb bw qS qA;clear h1 g1;(try unfold frV);have qS:=a6_ SU.out (BC.out);have qA:=fun (o:Obj)=>a6_ SU.out (ab_ BC.out (aa_ wq0 o));have M0:=True.intro)
       | ((with_reducible refine (HO0 (wr.alloc (.cells #[.slice none 0 0,.slice none 0 0] 35)).drew).mono ?_);have hzb:wr.heap.size≤wr.heap.size:=Nat.le_refl _;rintro ed wq0 ⟨a1,n1,c1,b1,m1,d1,rfl,h1,g1,bw⟩;have bb:=ab_ (G2 (.cells #[.slice none 0 0,.slice none 0 0] 35)) bw;have BC:=hd_ bb;replace RX:=RX.l_ bb;replace SX:=SX.l_ bb;have A1:=hd_ (h1);have D1:=hd_ (g1);have ZF:=hd_ (ac_ (w:=(wr.alloc (.cells #[.slice none 0 0,.slice none 0 0] 35)).drew) (ai_ wr #[.slice none 0 0,.slice none 0 0] 35) bw);clear bb bw qS qA;clear h1 g1;(try unfold frV);have qS:=a6_ SU.out (BC.out);have qA:=fun (o:Obj)=>a6_ SU.out (ab_ BC.out (aa_ wq0 o));have M0:=True.intro)))))
   | (go_at_call 46;(first
     | (have mm:=M1;(first
       | (have yy9:=ZF;(with_reducible refine (HL2 wq1 _ _ _ _ _ _ _ _ _ _ _ _ A1.out D1.out A2.out D2.out).mono ?_);rintro ed wq2 ⟨a3,n3,c3,b3,m3,d3,rfl,h3,g3,bw⟩;have bb:=bw;replace BC:=bt_ BC bb;replace RX:=RX.l_ bb;replace SX:=SX.l_ bb;replace A1:=A1.l_ bb;replace D1:=D1.l_ bb;replace A2:=A2.l_ bb;replace D2:=D2.l_ bb;have R3:=hd_ (h3);have S3:=hd_ (g3);replace ZF:=bl_ ZF bw;clear yy9;clear bb bw qS qA;clear h3 g3;(try unfold frV);have qS:=a6_ SU.out (BC.out);have qA:=fun (o:Obj)=>a6_ SU.out (ab_ BC.out (aa_ wq2 o));have M2:=True.intro)
       | ((with_reducible refine (HL2 wq1 _ _ _ _ _ _ _ _ _ _ _ _ A1.out D1.out A2.out D2.out).mono ?_);rintro ed wq2 ⟨a3,n3,c3,b3,m3,d3,rfl,h3,g3,bw⟩;have bb:=bw;replace BC:=bt_ BC bb;replace RX:=RX.l_ bb;replace SX:=SX.l_ bb;replace A1:=A1.l_ bb;replace D1:=D1.l_ bb;replace A2:=A2.l_ bb;replace D2:=D2.l_ bb;have R3:=hd_ (h3);have S3:=hd_ (g3);clear bb bw qS qA;clear h3 g3;(try unfold frV);have qS:=a6_ SU.out (BC.out);have qA:=fun (o:Obj)=>a6_ SU.out (ab_ BC.out (aa_ wq2 o));have M2:=True.intro)
       | (have ba:=aa_ wq1 (.cells #[.slice none 0 0,.slice none 0 0] 35);(with_reducible refine (HL2 (wq1.alloc (.cells #[.slice none 0 0,.slice none 0 0] 35)) _ _ _ _ _ _ _ _ _ _ _ _ (A1.out.later ba) (D1.out.later ba) (A2.out.later ba) (D2.out.later ba)).mono ?_);have hzb:wr.heap.size≤wq1.heap.size:=BC.out.size;rintro ed wq2 ⟨a3,n3,c3,b3,m3,d3,rfl,h3,g3,bw⟩;have bb:=ab_ ba bw;replace BC:=bt_ BC bb;replace RX:=RX.l_ bb;replace SX:=SX.l_ bb;replace A1:=A1.l_ bb;replace D1:=D1.l_ bb;replace A2:=A2.l_ bb;replace D2:=D2.l_ bb;have R3:=hd_ (h3);have S3:=hd_ (g3);have ZF:=hd_ (ac_ (ai_ wq1 #[.slice none 0 0,.slice none 0 0] 35) bw);clear ba;clear bb bw qS qA;clear h3 g3;(try unfold frV);have qS:=a6_ SU.out (BC.out);have qA:=fun (o:Obj)=>a6_ SU.out (ab_ BC.out (aa_ wq2 o));have M2:=True.intro)))))
   | (go_at_call 29;(first
     | (have mm:=M2;(first
       | (have yy9:=ZF;(with_reducible refine (HQ1 wq2 _ _ _ _ _ _ _ _ _ _ _ _ RX.out SX.out R3.out S3.out).mono ?_);rintro ed wq3 ⟨aq,nq,cq,bq,mq,dq,rfl,hq,gq,bw⟩;have bb:=bw;replace BC:=bt_ BC bb;replace RX:=RX.l_ bb;replace SX:=SX.l_ bb;replace A1:=A1.l_ bb;replace D1:=D1.l_ bb;replace A2:=A2.l_ bb;replace D2:=D2.l_ bb;replace R3:=R3.l_ bb;replace S3:=S3.l_ bb;have RQ:=hd_ (hq);have SQ:=hd_ (gq);replace ZF:=bl_ ZF bw;clear yy9;clear bb bw qS qA;clear hq gq;(try unfold frV);have qS:=a6_ SU.out (BC.out);have qA:=fun (o:Obj)=>a6_ SU.out (ab_ BC.out (aa_ wq3 o));obtain⟨z0,z1⟩:=bd_ ZF.out;have f0:=ae_ ZF.out 0;have f1:=ae_ ZF.out 1;have qC:=a6_ SU.out (ay_ BC.out hzb (.slice aq nq cq) (.slice bq mq dq));have M3:=True.intro)
       | ((with_reducible refine (HQ1 wq2 _ _ _ _ _ _ _ _ _ _ _ _ RX.out SX.out R3.out S3.out).mono ?_);rintro ed wq3 ⟨aq,nq,cq,bq,mq,dq,rfl,hq,gq,bw⟩;have bb:=bw;replace BC:=bt_ BC bb;replace RX:=RX.l_ bb;replace SX:=SX.l_ bb;replace A1:=A1.l_ bb;replace D1:=D1.l_ bb;replace A2:=A2.l_ bb;replace D2:=D2.l_ bb;replace R3:=R3.l_ bb;replace S3:=S3.l_ bb;have RQ:=hd_ (hq);have SQ:=hd_ (gq);clear bb bw qS qA;clear hq gq;(try unfold frV);have qS:=a6_ SU.out (BC.out);have qA:=fun (o:Obj)=>a6_ SU.out (ab_ BC.out (aa_ wq3 o));have M3:=True.intro)
       | (have ba:=aa_ wq2 (.cells #[.slice none 0 0,.slice none 0 0] 35);(with_reducible refine (HQ1 (wq2.alloc (.cells #[.slice none 0 0,.slice none 0 0] 35)) _ _ _ _ _ _ _ _ _ _ _ _ (RX.out.later ba) (SX.out.later ba) (R3.out.later ba) (S3.out.later ba)).mono ?_);have hzb:wr.heap.size≤wq2.heap.size:=BC.out.size;rintro ed wq3 ⟨aq,nq,cq,bq,mq,dq,rfl,hq,gq,bw⟩;have bb:=ab_ ba bw;replace BC:=bt_ BC bb;replace RX:=RX.l_ bb;replace SX:=SX.l_ bb;replace A1:=A1.l_ bb;replace D1:=D1.l_ bb;replace A2:=A2.l_ bb;replace D2:=D2.l_ bb;replace R3:=R3.l_ bb;replace S3:=S3.l_ bb;have RQ:=hd_ (hq);have SQ:=hd_ (gq);have ZF:=hd_ (ac_ (ai_ wq2 #[.slice none 0 0,.slice none 0 0] 35) bw);clear ba;clear bb bw qS qA;clear hq gq;(try unfold frV);have qS:=a6_ SU.out (BC.out);have qA:=fun (o:Obj)=>a6_ SU.out (ab_ BC.out (aa_ wq3 o));obtain⟨z0,z1⟩:=bd_ ZF.out;have f0:=ae_ ZF.out 0;have f1:=ae_ ZF.out 1;have qC:=a6_ SU.out (ay_ BC.out hzb (.slice aq nq cq) (.slice bq mq dq));have M3:=True.intro))))))
  all_goals (
   go_wp2
   go_meet
   (first
     | exact⟨_,aq,nq,cq,bq,mq,dq,rfl,rfl,hd_ (bj_ ZF.out (.slice aq nq cq) (.slice bq mq dq)),hd_ (RQ.out.boxed ZF.out (.slice aq nq cq) (.slice bq mq dq)),hd_ (SQ.out.boxed ZF.out (.slice aq nq cq) (.slice bq mq dq)),hd_ (ay_ BC.out hzb (.slice aq nq cq) (.slice bq mq dq))⟩
     | exact⟨wq3.heap.size,aq,nq,cq,bq,mq,dq,rfl,rfl,hd_ (ai_ wq3 _ 35),hd_ (RQ.out.later (aa_ wq3 _)),hd_ (SQ.out.later (aa_ wq3 _)),hd_ (ab_ BC.out (aa_ wq3 _))⟩))
 case rest=>
  obtain⟨gq,aq,nq,cq,bq,mq,dq,rfl,rfl,BQ,RQ,SQ,HBc⟩:=hcut
  replace HB:=hd_ (ab_ HB.out HBc.out)
  replace BX:=hd_ (ac_ BX.out HBc.out)
  replace RX:=hd_ (RX.out.later HBc.out)
  replace SX:=hd_ (SX.out.later HBc.out)
  clear HBc SU HL2 HQ1 HO2
  go_wp2_with fail
  refine (HRA _).mono ?_
  rintro ed w5 ⟨ah,nh,ch,bh,mh,dh,rfl,h5,g5,bw⟩
  unfold frV
  have ba:=aa_ w5 (.cells #[.bool (zneg qh.num),.slice ah nh ch,.slice bh mh dh] 44)
  have BH:=hd_ (ai_ w5 #[.bool (zneg qh.num),.slice ah nh ch,.slice bh mh dh] 44)
  have HA:=h5.l_ ba
  have HD:=g5.l_ ba
  have bb:=ab_ bw ba
  replace HB:=bt_ HB bb
  replace BX:=bl_ BX bb
  replace RX:=RX.l_ bb
  replace SX:=SX.l_ bb
  replace BQ:=bl_ BQ bb
  replace RQ:=RQ.l_ bb
  replace SQ:=SQ.l_ bb
  clear bw ba bb h5 g5 HRA
  go_upto_region 4 with fail
  generalize w5.alloc (.cells #[.bool (zneg qh.num),.slice ah nh ch,.slice bh mh dh] 44)=wr at *
  have SU:=hd_ (bd_ BX.out)
  go_upto_region 4 with fail
  go_cut [6,7] from 25 to 31 (fun cv ov wx=>∃(g:Nat) (ao:OA_) (no co:Nat) (bo:OA_) (mo do_:Nat),cv=.pointer (some ⟨g,0,none⟩)∧ov=.bool true∧Hid (wx.heap[g]? = some (.cells #[.slice ao no co,.slice bo mo do_] 35 (0,0)))∧Hid (Rw wx ao no co ON)∧Hid (Rw wx bo mo do_ X1)∧Hid (Below wr.heap.size wr wx))
  case first=>
   obtain⟨s0,s1⟩:=a6_ SU.out (Below.refl wr.heap.size wr)
   go_wp2
   clear s0 s1
   have G1:Below wr.heap.size wr wr.drew:=(Below.refl _ _).drew
   have G2:∀o,Below wr.heap.size wr (wr.alloc o).drew:=fun o=>(aa_ wr o).drew
   have qS:=a6_ SU.out (G1)
   have qA:=fun (o:Obj)=>a6_ SU.out (G2 o)
   go_region_held3 (fun w'=>w'.cell? ⟨w3.heap.size,0,none⟩=some (.slice ax nx cx)∧w'.cell? ⟨w3.heap.size,1,none⟩=some (.slice bx mx dx)) (first | with_reducible exact qS | with_reducible exact qA _ | with_reducible exact qC)
    (first
    | (go_at_call 47;(first
      | ((first
        | ((with_reducible refine (HO1 wr.drew).mono ?_);rintro ed wq0 ⟨a1,n1,c1,b1,m1,d1,rfl,h1,g1,bw⟩;have bb:=ab_ G1 bw;have BC:=hd_ bb;replace RX:=RX.l_ bb;replace SX:=SX.l_ bb;have A1:=hd_ (h1);have D1:=hd_ (g1);clear bb bw qS qA;clear h1 g1;(try unfold frV);have qS:=a6_ SU.out (BC.out);have qA:=fun (o:Obj)=>a6_ SU.out (ab_ BC.out (aa_ wq0 o));have M0:=True.intro)
        | ((with_reducible refine (HO1 (wr.alloc (.cells #[.slice none 0 0,.slice none 0 0] 35)).drew).mono ?_);have hzb:wr.heap.size≤wr.heap.size:=Nat.le_refl _;rintro ed wq0 ⟨a1,n1,c1,b1,m1,d1,rfl,h1,g1,bw⟩;have bb:=ab_ (G2 (.cells #[.slice none 0 0,.slice none 0 0] 35)) bw;have BC:=hd_ bb;replace RX:=RX.l_ bb;replace SX:=SX.l_ bb;have A1:=hd_ (h1);have D1:=hd_ (g1);have ZF:=hd_ (ac_ (w:=(wr.alloc (.cells #[.slice none 0 0,.slice none 0 0] 35)).drew) (ai_ wr #[.slice none 0 0,.slice none 0 0] 35) bw);clear bb bw qS qA;clear h1 g1;(try unfold frV);have qS:=a6_ SU.out (BC.out);have qA:=fun (o:Obj)=>a6_ SU.out (ab_ BC.out (aa_ wq0 o));have M0:=True.intro)))))
    | (go_at_call 28;(first
      | (have mm:=M0;(first
        | (have yy9:=ZF;(with_reducible refine (HF1 wq0 _ _ _ _ _ _ A1.out D1.out).mono ?_);rintro ed wq1 ⟨a3,n3,c3,b3,m3,d3,rfl,h3,g3,bw⟩;have bb:=bw;replace BC:=bt_ BC bb;replace RX:=RX.l_ bb;replace SX:=SX.l_ bb;replace A1:=A1.l_ bb;replace D1:=D1.l_ bb;have R3:=hd_ (h3);have S3:=hd_ (g3);replace ZF:=bl_ ZF bw;clear yy9;clear bb bw qS qA;clear h3 g3;(try unfold frV);have qS:=a6_ SU.out (BC.out);have qA:=fun (o:Obj)=>a6_ SU.out (ab_ BC.out (aa_ wq1 o));have M1:=True.intro)
        | ((with_reducible refine (HF1 wq0 _ _ _ _ _ _ A1.out D1.out).mono ?_);rintro ed wq1 ⟨a3,n3,c3,b3,m3,d3,rfl,h3,g3,bw⟩;have bb:=bw;replace BC:=bt_ BC bb;replace RX:=RX.l_ bb;replace SX:=SX.l_ bb;replace A1:=A1.l_ bb;replace D1:=D1.l_ bb;have R3:=hd_ (h3);have S3:=hd_ (g3);clear bb bw qS qA;clear h3 g3;(try unfold frV);have qS:=a6_ SU.out (BC.out);have qA:=fun (o:Obj)=>a6_ SU.out (ab_ BC.out (aa_ wq1 o));have M1:=True.intro)
        | (have ba:=aa_ wq0 (.cells #[.slice none 0 0,.slice none 0 0] 35);(with_reducible refine (HF1 (wq0.alloc (.cells #[.slice none 0 0,.slice none 0 0] 35)) _ _ _ _ _ _ (A1.out.later ba) (D1.out.later ba)).mono ?_);have hzb:wr.heap.size≤wq0.heap.size:=BC.out.size;rintro ed wq1 ⟨a3,n3,c3,b3,m3,d3,rfl,h3,g3,bw⟩;have bb:=ab_ ba bw;replace BC:=bt_ BC bb;replace RX:=RX.l_ bb;replace SX:=SX.l_ bb;replace A1:=A1.l_ bb;replace D1:=D1.l_ bb;have R3:=hd_ (h3);have S3:=hd_ (g3);have ZF:=hd_ (ac_ (ai_ wq0 #[.slice none 0 0,.slice none 0 0] 35) bw);clear ba;clear bb bw qS qA;clear h3 g3;(try unfold frV);have qS:=a6_ SU.out (BC.out);have qA:=fun (o:Obj)=>a6_ SU.out (ab_ BC.out (aa_ wq1 o));have M1:=True.intro)))))
    | (go_at_call 29;(first
      | (have mm:=M1;(first
        | (have yy9:=ZF;(with_reducible refine (HQ2 wq1 _ _ _ _ _ _ _ _ _ _ _ _ R3.out S3.out RX.out SX.out).mono ?_);rintro ed wq2 ⟨ao,no,co,bo,mo,do_,rfl,ho,go_,bw⟩;have bb:=bw;replace BC:=bt_ BC bb;replace RX:=RX.l_ bb;replace SX:=SX.l_ bb;replace A1:=A1.l_ bb;replace D1:=D1.l_ bb;replace R3:=R3.l_ bb;replace S3:=S3.l_ bb;have RO:=hd_ (ho);have SO:=hd_ (go_);replace ZF:=bl_ ZF bw;clear yy9;clear bb bw qS qA;clear ho go_;(try unfold frV);have qS:=a6_ SU.out (BC.out);have qA:=fun (o:Obj)=>a6_ SU.out (ab_ BC.out (aa_ wq2 o));obtain⟨z0,z1⟩:=bd_ ZF.out;have f0:=ae_ ZF.out 0;have f1:=ae_ ZF.out 1;have qC:=a6_ SU.out (ay_ BC.out hzb (.slice ao no co) (.slice bo mo do_));have M2:=True.intro)
        | ((with_reducible refine (HQ2 wq1 _ _ _ _ _ _ _ _ _ _ _ _ R3.out S3.out RX.out SX.out).mono ?_);rintro ed wq2 ⟨ao,no,co,bo,mo,do_,rfl,ho,go_,bw⟩;have bb:=bw;replace BC:=bt_ BC bb;replace RX:=RX.l_ bb;replace SX:=SX.l_ bb;replace A1:=A1.l_ bb;replace D1:=D1.l_ bb;replace R3:=R3.l_ bb;replace S3:=S3.l_ bb;have RO:=hd_ (ho);have SO:=hd_ (go_);clear bb bw qS qA;clear ho go_;(try unfold frV);have qS:=a6_ SU.out (BC.out);have qA:=fun (o:Obj)=>a6_ SU.out (ab_ BC.out (aa_ wq2 o));have M2:=True.intro)
        | (have ba:=aa_ wq1 (.cells #[.slice none 0 0,.slice none 0 0] 35);(with_reducible refine (HQ2 (wq1.alloc (.cells #[.slice none 0 0,.slice none 0 0] 35)) _ _ _ _ _ _ _ _ _ _ _ _ (R3.out.later ba) (S3.out.later ba) (RX.out.later ba) (SX.out.later ba)).mono ?_);have hzb:wr.heap.size≤wq1.heap.size:=BC.out.size;rintro ed wq2 ⟨ao,no,co,bo,mo,do_,rfl,ho,go_,bw⟩;have bb:=ab_ ba bw;replace BC:=bt_ BC bb;replace RX:=RX.l_ bb;replace SX:=SX.l_ bb;replace A1:=A1.l_ bb;replace D1:=D1.l_ bb;replace R3:=R3.l_ bb;replace S3:=S3.l_ bb;have RO:=hd_ (ho);have SO:=hd_ (go_);have ZF:=hd_ (ac_ (ai_ wq1 #[.slice none 0 0,.slice none 0 0] 35) bw);clear ba;clear bb bw qS qA;clear ho go_;(try unfold frV);have qS:=a6_ SU.out (BC.out);have qA:=fun (o:Obj)=>a6_ SU.out (ab_ BC.out (aa_ wq2 o));obtain⟨z0,z1⟩:=bd_ ZF.out;have f0:=ae_ ZF.out 0;have f1:=ae_ ZF.out 1;have qC:=a6_ SU.out (ay_ BC.out hzb (.slice ao no co) (.slice bo mo do_));have M2:=True.intro))))))
   all_goals (
    go_wp2
    go_meet
    (first
      | exact⟨_,ao,no,co,bo,mo,do_,rfl,rfl,hd_ (bj_ ZF.out (.slice ao no co) (.slice bo mo do_)),hd_ (RO.out.boxed ZF.out (.slice ao no co) (.slice bo mo do_)),hd_ (SO.out.boxed ZF.out (.slice ao no co) (.slice bo mo do_)),hd_ (ay_ BC.out hzb (.slice ao no co) (.slice bo mo do_))⟩
      | exact⟨wq2.heap.size,ao,no,co,bo,mo,do_,rfl,rfl,hd_ (ai_ wq2 _ 35),hd_ (RO.out.later (aa_ wq2 _)),hd_ (SO.out.later (aa_ wq2 _)),hd_ (ab_ BC.out (aa_ wq2 _))⟩))
  case rest=>
   obtain⟨go9,ao,no,co,bo,mo,do_,rfl,rfl,BO,RO,SO,HBc⟩:=hcut
   replace HB:=hd_ (ab_ HB.out HBc.out)
   replace BQ:=hd_ (ac_ BQ.out HBc.out)
   replace RQ:=hd_ (RQ.out.later HBc.out)
   replace SQ:=hd_ (SQ.out.later HBc.out)
   replace BH:=hd_ (ac_ BH.out HBc.out)
   replace HA:=hd_ (HA.out.later HBc.out)
   replace HD:=hd_ (HD.out.later HBc.out)
   clear HBc SU HF1 HQ2 HO1 BX RX SX
   go_upto_region 5 with fail
   generalize wc=wr at *
   have SU:=hd_ (bd_ BO.out)
   go_upto_region 5 with fail
   go_cut [8,9] from 32 to 37 (fun cv ov wx=>∃(g:Nat) (ae:OA_) (ne ce:Nat) (be:OA_) (me de:Nat),cv=.pointer (some ⟨g,0,none⟩)∧ov=.bool false∧Hid (wx.heap[g]? = some (.cells #[.bool (zneg qz.num),.slice ae ne ce,.slice be me de] 44 (0,0)))∧Hid (Below wr.heap.size wr wx))
   case first=>
    obtain⟨s0,s1⟩:=a6_ SU.out (Below.refl wr.heap.size wr)
    go_wp2
    clear s0 s1
    have G1:Below wr.heap.size wr wr.drew:=(Below.refl _ _).drew
    have G2:∀o,Below wr.heap.size wr (wr.alloc o).drew:=fun o=>(aa_ wr o).drew
    have qS:=a6_ SU.out (G1)
    have qA:=fun (o:Obj)=>a6_ SU.out (G2 o)
    go_region_held3 (fun w'=>w'.cell? ⟨go9,0,none⟩=some (.slice ao no co)∧w'.cell? ⟨go9,1,none⟩=some (.slice bo mo do_)) (first | with_reducible exact qS | with_reducible exact qA _ | with_reducible exact qC)
     (first
     | (go_at_call 47;(first
       | ((first
         | ((with_reducible refine (HO0 wr.drew).mono ?_);rintro ed wq0 ⟨a1,n1,c1,b1,m1,d1,rfl,h1,g1,bw⟩;have bb:=ab_ G1 bw;have BC:=hd_ bb;replace RO:=RO.l_ bb;replace SO:=SO.l_ bb;have A1:=hd_ (h1);have D1:=hd_ (g1);clear bb bw qS qA;clear h1 g1;(try unfold frV);have qS:=a6_ SU.out (BC.out);have qA:=fun (o:Obj)=>a6_ SU.out (ab_ BC.out (aa_ wq0 o));have M0:=True.intro)
         | ((with_reducible refine (HO0 (wr.alloc (.cells #[.bool false,.slice none 0 0,.slice none 0 0] 44)).drew).mono ?_);have hzb:wr.heap.size≤wr.heap.size:=Nat.le_refl _;rintro ed wq0 ⟨a1,n1,c1,b1,m1,d1,rfl,h1,g1,bw⟩;have bb:=ab_ (G2 (.cells #[.bool false,.slice none 0 0,.slice none 0 0] 44)) bw;have BC:=hd_ bb;replace RO:=RO.l_ bb;replace SO:=SO.l_ bb;have A1:=hd_ (h1);have D1:=hd_ (g1);have ZF:=hd_ (ac_ (w:=(wr.alloc (.cells #[.bool false,.slice none 0 0,.slice none 0 0] 44)).drew) (ai_ wr #[.bool false,.slice none 0 0,.slice none 0 0] 44) bw);clear bb bw qS qA;clear h1 g1;(try unfold frV);have qS:=a6_ SU.out (BC.out);have qA:=fun (o:Obj)=>a6_ SU.out (ab_ BC.out (aa_ wq0 o));have M0:=True.intro)))))
     | (go_at_call 16;(first
       | (have mm:=M0;(first
         | (have yy9:=ZF;(with_reducible refine (HEV wq0 _ _ _ _ _ _ _ _ _ _ _ _ RO.out SO.out A1.out D1.out).mono ?_);rintro ed wq1 ⟨ae,ne,ce,be,me,de,rfl,he,ge,bw⟩;have bb:=bw;replace BC:=bt_ BC bb;replace RO:=RO.l_ bb;replace SO:=SO.l_ bb;replace A1:=A1.l_ bb;replace D1:=D1.l_ bb;have AE:=hd_ (he);have DE:=hd_ (ge);replace ZF:=bl_ ZF bw;clear yy9;clear bb bw qS qA;clear he ge;(try unfold frV);have qS:=a6_ SU.out (BC.out);have qA:=fun (o:Obj)=>a6_ SU.out (ab_ BC.out (aa_ wq1 o));obtain⟨z0,z1,z2⟩:=ao_ ZF.out;have f0:=ae_ ZF.out 0;have f1:=ae_ ZF.out 1;have f2:=ae_ ZF.out 2;have qC:=a6_ SU.out (as_ BC.out hzb (.bool (zneg qz.num)) (.slice ae ne ce) (.slice be me de));have M1:=True.intro)
         | ((with_reducible refine (HEV wq0 _ _ _ _ _ _ _ _ _ _ _ _ RO.out SO.out A1.out D1.out).mono ?_);rintro ed wq1 ⟨ae,ne,ce,be,me,de,rfl,he,ge,bw⟩;have bb:=bw;replace BC:=bt_ BC bb;replace RO:=RO.l_ bb;replace SO:=SO.l_ bb;replace A1:=A1.l_ bb;replace D1:=D1.l_ bb;have AE:=hd_ (he);have DE:=hd_ (ge);clear bb bw qS qA;clear he ge;(try unfold frV);have qS:=a6_ SU.out (BC.out);have qA:=fun (o:Obj)=>a6_ SU.out (ab_ BC.out (aa_ wq1 o));have M1:=True.intro)
         | (have ba:=aa_ wq0 (.cells #[.bool false,.slice none 0 0,.slice none 0 0] 44);(with_reducible refine (HEV (wq0.alloc (.cells #[.bool false,.slice none 0 0,.slice none 0 0] 44)) _ _ _ _ _ _ _ _ _ _ _ _ (RO.out.later ba) (SO.out.later ba) (A1.out.later ba) (D1.out.later ba)).mono ?_);have hzb:wr.heap.size≤wq0.heap.size:=BC.out.size;rintro ed wq1 ⟨ae,ne,ce,be,me,de,rfl,he,ge,bw⟩;have bb:=ab_ ba bw;replace BC:=bt_ BC bb;replace RO:=RO.l_ bb;replace SO:=SO.l_ bb;replace A1:=A1.l_ bb;replace D1:=D1.l_ bb;have AE:=hd_ (he);have DE:=hd_ (ge);have ZF:=hd_ (ac_ (ai_ wq0 #[.bool false,.slice none 0 0,.slice none 0 0] 44) bw);clear ba;clear bb bw qS qA;clear he ge;(try unfold frV);have qS:=a6_ SU.out (BC.out);have qA:=fun (o:Obj)=>a6_ SU.out (ab_ BC.out (aa_ wq1 o));obtain⟨z0,z1,z2⟩:=ao_ ZF.out;have f0:=ae_ ZF.out 0;have f1:=ae_ ZF.out 1;have f2:=ae_ ZF.out 2;have qC:=a6_ SU.out (as_ BC.out hzb (.bool (zneg qz.num)) (.slice ae ne ce) (.slice be me de));have M1:=True.intro))))))
    all_goals (
     go_wp2
     go_meet
     (first
       | exact⟨_,ae,ne,ce,be,me,de,rfl,rfl,hd_ (be_ ZF.out (.bool (zneg qz.num)) (.slice ae ne ce) (.slice be me de)),hd_ (as_ BC.out hzb (.bool (zneg qz.num)) (.slice ae ne ce) (.slice be me de))⟩
       | exact⟨wq1.heap.size,ae,ne,ce,be,me,de,rfl,rfl,hd_ (ai_ wq1 _ 44),hd_ (ab_ BC.out (aa_ wq1 _))⟩))
   case rest=>
    obtain⟨ge9,ae,ne,ce,be,me,de,rfl,rfl,BE,HBc⟩:=hcut
    replace HB:=hd_ (ab_ HB.out HBc.out)
    replace BQ:=hd_ (ac_ BQ.out HBc.out)
    replace RQ:=hd_ (RQ.out.later HBc.out)
    replace SQ:=hd_ (SQ.out.later HBc.out)
    replace BH:=hd_ (ac_ BH.out HBc.out)
    replace HA:=hd_ (HA.out.later HBc.out)
    replace HD:=hd_ (HD.out.later HBc.out)
    replace BO:=hd_ (ac_ BO.out HBc.out)
    replace RO:=hd_ (RO.out.later HBc.out)
    replace SO:=hd_ (SO.out.later HBc.out)
    clear HBc SU HEV HO0 BE
    go_upto_region 6 with fail
    generalize wc=wr at *
    obtain⟨s0,s1,s2,s3,s4,s5,s6⟩:=fe_ BQ.out BH.out BO.out
    go_wp2
    clear s0 s1 s2 s3 s4 s5 s6
    replace HB:=bt_ HB (dw_ wr)
    replace BQ:Hid (wr.drew.heap[gq]? = _):=hd_ BQ.out
    replace BH:Hid (wr.drew.heap[w5.heap.size]? = _):=hd_ BH.out
    replace BO:Hid (wr.drew.heap[go9]? = _):=hd_ BO.out
    replace RQ:=RQ.l_ (dw_ wr)
    replace SQ:=SQ.l_ (dw_ wr)
    replace HA:=HA.l_ (dw_ wr)
    replace HD:=HD.l_ (dw_ wr)
    replace RO:=RO.l_ (dw_ wr)
    replace SO:=SO.l_ (dw_ wr)
    have pSn:=fe_ BQ.out BH.out BO.out
    go_region_held3 (fun w'=>w'.cell? ⟨gq,0,none⟩=some (.slice aq nq cq)∧w'.cell? ⟨gq,1,none⟩=some (.slice bq mq dq)∧w'.cell? ⟨w5.heap.size,0,none⟩=some (.bool (zneg qh.num))∧w'.cell? ⟨w5.heap.size,1,none⟩=some (.slice ah nh ch)∧w'.cell? ⟨w5.heap.size,2,none⟩=some (.slice bh mh dh)∧w'.cell? ⟨go9,0,none⟩=some (.slice ao no co)∧w'.cell? ⟨go9,1,none⟩=some (.slice bo mo do_)) (exact pSn)
     (first
     | (go_at_call 28;(first
       | (refine (HFH _ _ _ _ _ _ _ HA.out HD.out).mono ?_;rintro e wp1 ⟨a7,n7,c7,b7,m7,d7,rfl,h7,g7,b⟩;replace HB:=bt_ HB b;replace BQ:=bl_ BQ b;replace BH:=bl_ BH b;replace BO:=bl_ BO b;replace RQ:=RQ.l_ b;replace SQ:=SQ.l_ b;replace HA:=HA.l_ b;replace HD:=HD.l_ b;replace RO:=RO.l_ b;replace SO:=SO.l_ b;have R7:=hd_ h7;have S7:=hd_ g7;clear h7 g7;clear b;clear pSn;have pSn:=fe_ BQ.out BH.out BO.out;have pM1:=True.intro)))
     | (go_at_call 24;(first
       | (have pm1:=pM1;refine (HSM _ _ _ _ _ _ _ _ _ _ _ _ _ RQ.out SQ.out R7.out S7.out).mono ?_;rintro e wp2 ⟨rfl,b⟩;replace HB:=bt_ HB b;replace BQ:=bl_ BQ b;replace BH:=bl_ BH b;replace BO:=bl_ BO b;replace RQ:=RQ.l_ b;replace SQ:=SQ.l_ b;replace HA:=HA.l_ b;replace HD:=HD.l_ b;replace RO:=RO.l_ b;replace SO:=SO.l_ b;clear R7;clear S7;clear b;clear pSn;have pSn:=fe_ BQ.out BH.out BO.out;clear pM1 pm1;have pM2:=True.intro)))
     | (go_at_call 23;(first
       | (have pm2:=pM2;refine (HZR _ _ _ _ _ _ _ RO.out SO.out).mono ?_;rintro e wp3 ⟨rfl,b⟩;replace HB:=bt_ HB b;replace BQ:=bl_ BQ b;replace BH:=bl_ BH b;replace BO:=bl_ BO b;replace RQ:=RQ.l_ b;replace SQ:=SQ.l_ b;replace HA:=HA.l_ b;replace HD:=HD.l_ b;replace RO:=RO.l_ b;replace SO:=SO.l_ b;clear b;clear pSn;have pSn:=fe_ BQ.out BH.out BO.out;clear pM2 pm2;have pM3:=True.intro))))
    all_goals (
     go_wp2
     go_ret
     exact⟨rfl,HB.out⟩)
end Go.Proofs.YtocebjbjnfammaaGreat
