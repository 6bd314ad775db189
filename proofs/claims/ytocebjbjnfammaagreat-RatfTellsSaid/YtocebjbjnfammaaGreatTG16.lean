import Derived.Test.YtocebjbjnfammaaGreatTG13
import Derived.Deep.RegionHeld3
import Derived.Test.YtocebjbjnfammaaGreatTG11
import Derived.Deep.RegionLaw
import Derived.Test.YtocebjbjnfammaaGreatTG6
import Derived.Test.YtocebjbjnfammaaGreatTG8
import Derived.Test.YtocebjbjnfammaaGreatTG1
set_option maxRecDepth 4096
set_option maxHeartbeats 16000000
namespace Go.Proofs.YtocebjbjnfammaaGreat
open Go.RowKit
theorem u0_(p:Rat)(a1:OA_)(n1 c1:Nat)(b1:OA_)(m1 d1:Nat)(q:Rat)(a2:OA_)(n2 c2:Nat)(b2:OA_)(m2 d2:Nat)(N:Nat)(w:World)(A1:Wd w a1 n1 c1 (dg p.num.natAbs))(D1:Wd w b1 m1 d1 (dg p.den))(A2:Wd w a2 n2 c2 (dg q.num.natAbs))(D2:Wd w b2 m2 d2 (dg q.den))(lp:qlen p≤N)(lq:qlen q≤N)(hk:Fok 2 (N * 3))(hN:1≤N) :
 Calls Tryz.prog 65 #[(frV (zneg p.num) a1 n1 c1 b1 m1 d1),(frV (zneg q.num) a2 n2 c2 b2 m2 d2)] w (LstF [p,q] [1] w):=by
 have hpq:∀x∈[p,q],qlen x≤N:=fun x hx=>by
  simp only[List.mem_cons,List.not_mem_nil,or_false] at hx
  rcases hx with rfl | rfl
  ·exact lp
  ·exact lq
 have hone:∀x∈[(1:Rat)],qlen x≤N:=fun x hx=>by
  rw[List.mem_singleton.1 hx]
  have h9:(1:Rat)=((1:Int):Rat):=rfl
  have h8:qlen (1:Rat)≤1:=by
   refine ez_ ?_ ?_
   ·show (dg 1).length≤1
    rw[fk_ (by decide) (by decide)];exact Nat.le_refl _
   ·show (dg 1).length≤1
    rw[fk_ (by decide) (by decide)];exact Nat.le_refl _
  omega
 have hz:Fz [p,q] [1] 2 (N * 3):=Fz.of (n:=2) (m:=1) hpq hone (by simp) (by simp) (by omega) (by omega) (by omega)
 obtain⟨PQ,hPQ⟩:∃l,[p,q]=l:=⟨_,rfl⟩
 obtain⟨ON,hON⟩:∃l:LR_,[1]=l:=⟨_,rfl⟩
 have HNO:∀(w':World) (a3:OA_) (n3 c3:Nat) (b3:OA_) (m3 d3:Nat),Rw w' a3 n3 c3 [p,q]→Rw w' b3 m3 d3 ON→Calls Tryz.prog 10 #[.agg #[.slice a3 n3 c3,.slice b3 m3 d3]] w' (LstF PQ ON w'):=fun w' a3 n3 c3 b3 m3 d3 h8 h9=>hON▸hPQ▸jx_ a3 n3 c3 [p,q] b3 m3 d3 [1] w' h8 (hON.symm▸h9) (peq.refl _) (peq.refl _) hz (by simp) (by simp) hk
 have HONE:∀w':World,Calls Tryz.prog 51 #[] w' (b5_ ON w'):=fun w'=>hON▸q8_ w'
 rw[hPQ,hON]
 have HB:=hd_ (ab_ (ab_ (aa_ w (.cells #[.bool (zneg p.num),.slice a1 n1 c1,.slice b1 m1 d1] 27)) (aa_ _ (.cells #[.bool (zneg q.num),.slice a2 n2 c2,.slice b2 m2 d2] 27))) (aa_ _ (.cells #[.slice none 0 0,.slice none 0 0] 24)))
 have X0:Hid ((((w.alloc (.cells #[.bool (zneg p.num),.slice a1 n1 c1,.slice b1 m1 d1] 27)).alloc (.cells #[.bool (zneg q.num),.slice a2 n2 c2,.slice b2 m2 d2] 27)).alloc (.cells #[.slice none 0 0,.slice none 0 0] 24)).heap[w.heap.size]? = some (.cells #[.bool (zneg p.num),.slice a1 n1 c1,.slice b1 m1 d1] 27 (0,0))):=hd_ (ac_ (ac_ (ai_ w _ _) (aa_ _ (.cells #[.bool (zneg q.num),.slice a2 n2 c2,.slice b2 m2 d2] 27))) (aa_ _ (.cells #[.slice none 0 0,.slice none 0 0] 24)))
 have X1:Hid ((((w.alloc (.cells #[.bool (zneg p.num),.slice a1 n1 c1,.slice b1 m1 d1] 27)).alloc (.cells #[.bool (zneg q.num),.slice a2 n2 c2,.slice b2 m2 d2] 27)).alloc (.cells #[.slice none 0 0,.slice none 0 0] 24)).heap[w.heap.size+1]? = some (.cells #[.bool (zneg q.num),.slice a2 n2 c2,.slice b2 m2 d2] 27 (0,0))):=hd_ (ac_ (by have h9:=ai_ (w.alloc (.cells #[.bool (zneg p.num),.slice a1 n1 c1,.slice b1 m1 d1] 27)) #[.bool (zneg q.num),.slice a2 n2 c2,.slice b2 m2 d2] 27;rwa [al_] at h9) (aa_ _ (.cells #[.slice none 0 0,.slice none 0 0] 24)))
 have R0:Hid ((((w.alloc (.cells #[.bool (zneg p.num),.slice a1 n1 c1,.slice b1 m1 d1] 27)).alloc (.cells #[.bool (zneg q.num),.slice a2 n2 c2,.slice b2 m2 d2] 27)).alloc (.cells #[.slice none 0 0,.slice none 0 0] 24)).heap[w.heap.size+1+1]? = some (.cells #[.slice none 0 0,.slice none 0 0] 24 (0,0))):=hd_ (by have h9:=ai_ ((w.alloc (.cells #[.bool (zneg p.num),.slice a1 n1 c1,.slice b1 m1 d1] 27)).alloc (.cells #[.bool (zneg q.num),.slice a2 n2 c2,.slice b2 m2 d2] 27)) #[.slice none 0 0,.slice none 0 0] 24;rwa [al_,al_] at h9)
 have F1:=hd_ (A1.later HB.out)
 have F2:=hd_ (D1.later HB.out)
 have F3:=hd_ (A2.later HB.out)
 have F4:=hd_ (D2.later HB.out)
 clear A1 D1 A2 D2 lp lq hk hN hpq hone hz hPQ hON
 go_enter Tryz.func65,Tryz.ntmps65
 unfold frV
 go_wp2
 generalize (((w.alloc (.cells #[.bool (zneg p.num),.slice a1 n1 c1,.slice b1 m1 d1] 27)).alloc (.cells #[.bool (zneg q.num),.slice a2 n2 c2,.slice b2 m2 d2] 27)).alloc (.cells #[.slice none 0 0,.slice none 0 0] 24))=W at *
 have G1:Below W.heap.size W W.drew:=(Below.refl _ _).drew
 have G2:∀o,Below W.heap.size W (W.alloc o).drew:=fun o=>(aa_ W o).drew
 have qS:=bc_ (ac_ X0.out G1) (ac_ X1.out G1)
 have qA:=fun o=>bc_ (ac_ X0.out (G2 o)) (ac_ X1.out (G2 o))
 go_region_held3 (fun w'=>w'.cell? ⟨w.heap.size,0,none⟩=some (.bool (zneg p.num))∧w'.cell? ⟨w.heap.size,1,none⟩=some (.slice a1 n1 c1)∧w'.cell? ⟨w.heap.size,2,none⟩=some (.slice b1 m1 d1)∧w'.cell? ⟨w.heap.size+1,0,none⟩=some (.bool (zneg q.num))∧w'.cell? ⟨w.heap.size+1,1,none⟩=some (.slice a2 n2 c2)∧w'.cell? ⟨w.heap.size+1,2,none⟩=some (.slice b2 m2 d2)) (first | with_reducible exact qS | with_reducible exact qA _ | with_reducible exact pSb _ _)
  (first
  | (go_at_call 51;refine (HONE _).mono ?_;rintro e w1 ⟨a5,n5,c5,rfl,h5,bw⟩;(first
    | (have bw1:Below W.drew.heap.size W.drew w1:=(by with_reducible exact bw);have BB:=hd_ (ab_ G1 bw1))
    | (have bw1:Below (W.alloc (.cells #[.bool (zneg p.num),.slice a1 n1 c1,.slice b1 m1 d1,.bool (zneg q.num),.slice a2 n2 c2,.slice b2 m2 d2] 27)).drew.heap.size (W.alloc (.cells #[.bool (zneg p.num),.slice a1 n1 c1,.slice b1 m1 d1,.bool (zneg q.num),.slice a2 n2 c2,.slice b2 m2 d2] 27)).drew w1:=(by with_reducible exact bw);have BB:=hd_ (ab_ (G2 _) bw1);have RL:=hd_ ((Rw.lit2 W 27 F1.out F2.out F3.out F4.out).later (ab_ ((Below.refl _ _).drew:Below (W.alloc (.cells #[.bool (zneg p.num),.slice a1 n1 c1,.slice b1 m1 d1,.bool (zneg q.num),.slice a2 n2 c2,.slice b2 m2 d2] 27)).heap.size (W.alloc (.cells #[.bool (zneg p.num),.slice a1 n1 c1,.slice b1 m1 d1,.bool (zneg q.num),.slice a2 n2 c2,.slice b2 m2 d2] 27)) (W.alloc (.cells #[.bool (zneg p.num),.slice a1 n1 c1,.slice b1 m1 d1,.bool (zneg q.num),.slice a2 n2 c2,.slice b2 m2 d2] 27)).drew) bw1))));have O5:=hd_ h5;clear h5 bw bw1 qS qA;have qS:=bc_ (ac_ X0.out BB.out) (ac_ X1.out BB.out);have qA:=fun o=>bc_ (ac_ X0.out (ab_ BB.out (aa_ w1 o))) (ac_ X1.out (ab_ BB.out (aa_ w1 o))))
  | (go_at_call 10;(first
    | (have zz:=RL.out;refine (HNO _ _ _ _ _ _ _ RL.out O5.out).mono ?_;rintro e w2 ⟨a23,n23,c23,u23,b23,m23,d23,v23,rfl,h23,g23,k23,b⟩;have BT:=hd_ (ab_ BB.out b);clear zz)
    | (have BA:=ab_ BB.out (aa_ w1 (.cells #[.bool (zneg p.num),.slice a1 n1 c1,.slice b1 m1 d1,.bool (zneg q.num),.slice a2 n2 c2,.slice b2 m2 d2] 27));refine (HNO _ _ _ _ _ _ _ (Rw.lit2 w1 27 (F1.out.later BB.out) (F2.out.later BB.out) (F3.out.later BB.out) (F4.out.later BB.out)) (O5.out.later (aa_ w1 _))).mono ?_;rintro e w2 ⟨a23,n23,c23,u23,b23,m23,d23,v23,rfl,h23,g23,k23,b⟩;have BT:=hd_ (ab_ BA b);clear BA));have F23:=hd_ h23;have G23:=hd_ g23;have K23:=hd_ k23;clear h23 g23 k23 b qS qA;replace HB:=hd_ (ab_ HB.out BT.out);replace R0:=hd_ (ac_ R0.out BT.out);have Y0:=hd_ (ac_ X0.out BT.out);have Y1:=hd_ (ac_ X1.out BT.out);obtain⟨r0,r1⟩:=bd_ R0.out;have e0:=ae_ R0.out 0;have e1:=ae_ R0.out 1;have pSb:=fun u v=>bc_ (db_ (g:=w.heap.size+1+1) Y0.out (by omega) u v) (db_ (g:=w.heap.size+1+1) Y1.out (by omega) u v);have qS:=bc_ Y0.out Y1.out))
 all_goals (
  have R9:=hd_ (bj_ R0.out (.slice a23 n23 c23) (.slice b23 m23 d23))
  have P9:=hd_ (F23.out.boxed R0.out (.slice a23 n23 c23) (.slice b23 m23 d23))
  have Q9:=hd_ (G23.out.boxed R0.out (.slice a23 n23 c23) (.slice b23 m23 d23))
  have G9:=hd_ (ay_ HB.out (show w.heap.size≤w.heap.size+1+1 by omega) (.slice a23 n23 c23) (.slice b23 m23 d23))
  go_wp2
  refine bodyPost_ret (results_cell_row Tryz.results65 _ _ (w.heap.size+1+1) 24 #[.slice a23 n23 c23,.slice b23 m23 d23] (0,0) _ rfl R9.out Tryz.underlying24 rfl (by kernel_rfl)) rfl ?_
  exact⟨a23,n23,c23,u23,b23,m23,d23,v23,rfl,P9.out,Q9.out,K23.out,G9.out⟩)
theorem lg_(p:Rat)(a1:OA_)(n1 c1:Nat)(b1:OA_)(m1 d1:Nat)(N:Nat)(w:World)(A1:Wd w a1 n1 c1 (dg p.num.natAbs))(D1:Wd w b1 m1 d1 (dg p.den))(lp:qlen p≤N)(hk:Fok 2 (N * 3))(hN:2≤N) :
 Calls Tryz.prog 14 #[(frV (zneg p.num) a1 n1 c1 b1 m1 d1)] w (LstF [p,0] [1] w):=by
 obtain⟨z0,hz0⟩:∃q:Rat,((0:Int):Rat)=q:=⟨_,rfl⟩
 have hz00:z0=0:=by rw[←hz0];rfl
 have lz:qlen z0≤N:=by rw[←hz0];exact Nat.le_trans (b4_ (by decide)) hN
 have HI0:∀w':World,Calls Tryz.prog 15 #[.int .i64 0] w' (LstQ z0 w'):=fun w'=>hz0▸dg_ 0 w' c5_
 have HLI:∀(w':World) (a2:OA_) (n2 c2:Nat) (b2:OA_) (m2 d2:Nat),Wd w' a1 n1 c1 (dg p.num.natAbs)→Wd w' b1 m1 d1 (dg p.den)→Wd w' a2 n2 c2 (dg z0.num.natAbs)→Wd w' b2 m2 d2 (dg z0.den)→Calls Tryz.prog 65 #[(frV (zneg p.num) a1 n1 c1 b1 m1 d1),(frV (zneg z0.num) a2 n2 c2 b2 m2 d2)] w' (LstF [p,z0] [1] w'):=fun w' a2 n2 c2 b2 m2 d2 g1 g2 g3 g4=>u0_ p a1 n1 c1 b1 m1 d1 z0 a2 n2 c2 b2 m2 d2 N w' g1 g2 g3 g4 lp lz hk (by omega)
 rw[←hz00]
 have HB:=hd_ (ab_ (aa_ w (.cells #[.bool (zneg p.num),.slice a1 n1 c1,.slice b1 m1 d1] 27)) (aa_ _ (.cells #[.slice none 0 0,.slice none 0 0] 24)))
 have X0:Hid (((w.alloc (.cells #[.bool (zneg p.num),.slice a1 n1 c1,.slice b1 m1 d1] 27)).alloc (.cells #[.slice none 0 0,.slice none 0 0] 24)).heap[w.heap.size]? = some (.cells #[.bool (zneg p.num),.slice a1 n1 c1,.slice b1 m1 d1] 27 (0,0))):=hd_ (ac_ (ai_ w _ _) (aa_ _ (.cells #[.slice none 0 0,.slice none 0 0] 24)))
 have R0:Hid (((w.alloc (.cells #[.bool (zneg p.num),.slice a1 n1 c1,.slice b1 m1 d1] 27)).alloc (.cells #[.slice none 0 0,.slice none 0 0] 24)).heap[w.heap.size+1]? = some (.cells #[.slice none 0 0,.slice none 0 0] 24 (0,0))):=hd_ (by have h9:=ai_ (w.alloc (.cells #[.bool (zneg p.num),.slice a1 n1 c1,.slice b1 m1 d1] 27)) #[.slice none 0 0,.slice none 0 0] 24;rwa [al_] at h9)
 have F1:=hd_ (A1.later HB.out)
 have F2:=hd_ (D1.later HB.out)
 clear A1 D1 lp lz hk hN hz0 hz00
 go_enter Tryz.func14,Tryz.ntmps14
 unfold frV
 go_wp2
 generalize ((w.alloc (.cells #[.bool (zneg p.num),.slice a1 n1 c1,.slice b1 m1 d1] 27)).alloc (.cells #[.slice none 0 0,.slice none 0 0] 24))=W at *
 replace HB:=bt_ HB (dw_ W)
 replace X0:Hid (W.drew.heap[w.heap.size]? = _):=hd_ X0.out
 replace R0:Hid (W.drew.heap[w.heap.size+1]? = some (.cells #[.slice none 0 0,.slice none 0 0] 24 (0,0))):=hd_ R0.out
 replace F1:=F1.l_ (dw_ W)
 replace F2:=F2.l_ (dw_ W)
 have pSn:=ao_ X0.out
 go_region_held3 (fun w'=>w'.cell? ⟨w.heap.size,0,none⟩=some (.bool (zneg p.num))∧w'.cell? ⟨w.heap.size,1,none⟩=some (.slice a1 n1 c1)∧w'.cell? ⟨w.heap.size,2,none⟩=some (.slice b1 m1 d1)) (first | exact pSn | exact pSb _ _)
  (first
  | (go_at_call 15;(first
    | (refine (HI0 _).mono ?_;rintro e wp1 ⟨a21,n21,c21,b21,m21,d21,rfl,h21,g21,b⟩;replace HB:=bt_ HB b;replace X0:=bl_ X0 b;replace R0:=bl_ R0 b;replace F1:=F1.l_ b;replace F2:=F2.l_ b;have Z1:=hd_ h21;have Z2:=hd_ g21;clear h21 g21;unfold frV;clear b;clear pSn;have pSn:=ao_ X0.out;have pM1:=True.intro)))
  | (go_at_call 65;(first
    | (have pm1:=pM1;refine (HLI _ _ _ _ _ _ _ F1.out F2.out Z1.out Z2.out).mono ?_;rintro e wp2 ⟨a23,n23,c23,u23,b23,m23,d23,v23,rfl,h23,g23,k23,b⟩;replace HB:=bt_ HB b;replace X0:=bl_ X0 b;replace R0:=bl_ R0 b;replace F1:=F1.l_ b;replace F2:=F2.l_ b;clear Z1;clear Z2;have F23:=hd_ h23;have G23:=hd_ g23;have K23:=hd_ k23;clear h23 g23 k23;obtain⟨r0,r1⟩:=bd_ R0.out;have e0:=ae_ R0.out 0;have e1:=ae_ R0.out 1;have pSb:=fun u v=>ao_ (db_ (g:=w.heap.size+1) X0.out (by omega) u v);clear b;clear pSn;have pSn:=ao_ X0.out;clear pM1 pm1;have pM2:=True.intro))))
 have R9:=hd_ (bj_ R0.out (.slice a23 n23 c23) (.slice b23 m23 d23))
 have P9:=hd_ (F23.out.boxed R0.out (.slice a23 n23 c23) (.slice b23 m23 d23))
 have Q9:=hd_ (G23.out.boxed R0.out (.slice a23 n23 c23) (.slice b23 m23 d23))
 have G9:=hd_ (ay_ HB.out (show w.heap.size≤w.heap.size+1 by omega) (.slice a23 n23 c23) (.slice b23 m23 d23))
 go_wp2
 refine bodyPost_ret (results_cell_row Tryz.results14 _ _ (w.heap.size+1) 24 #[.slice a23 n23 c23,.slice b23 m23 d23] (0,0) _ rfl R9.out Tryz.underlying24 rfl (by kernel_rfl)) rfl ?_
 exact⟨a23,n23,c23,u23,b23,m23,d23,v23,rfl,P9.out,Q9.out,K23.out,G9.out⟩
theorem il_(a:OA_)(n c:Nat)(qs:LR_)(v:Value)(x:Rat)(N X:Nat)(w:World)(h:Rw w a n c qs)(hv:Rt w v x X)(hq:∀q∈qs,qlen q≤N)(hb:(n+1) * ((n+1) * (X+8)+N+8)≤15728640000):Calls Tryz.prog 69 #[.slice a n c,v] w (LstQ (ar_ x qs) w):=by
 have hbd:=h.bound
 obtain⟨ax,nx,cx,bx,mx,dx,rfl,hvA,hvD,hvn,hvm⟩:=hv
 have hlx:qlen x≤X:=ez_ (by rw[hvA.len];exact hvn) (by rw[hvD.len];exact hvm)
 have hX1:1≤X:=Nat.le_trans (ie_ x) hlx
 have HLQ:Hid (∀k,k < n→qlen (qs.getD k 0)≤N):=hd_ (fun k hk=>hq _ (fq_ (by rw[h.len];exact hk)))
 obtain⟨C,hC⟩:∃C,N+n * (X+1)+5=C:=⟨_,rfl⟩
 have hLC:∀k,k≤n→2+k * C≤15728640000:=fun k hk=>by
  have h1:k * C≤n * C:=Nat.mul_le_mul_right C hk
  have h2:C≤(n+1) * (X+8)+N+8:=by
   rw[←hC,Nat.add_mul]
   have:n * (X+1)≤n * (X+8):=Nat.mul_le_mul_left n (by omega)
   omega
  have h3:n * C≤n * ((n+1) * (X+8)+N+8):=Nat.mul_le_mul_left n h2
  rw[Nat.add_mul (n) 1 ((n+1) * (X+8)+N+8)] at hb
  omega
 have hLP:∀k,k≤n→2+k * (X+1)≤2+n * (X+1):=fun k hk=>Nat.add_le_add_left (Nat.mul_le_mul_right _ hk) 2
 have hLU:2+n * (X+1)+N+X≤15728640000:=by
  have h1:n * (X+1)≤(n+1) * (X+8):=Nat.mul_le_mul (by omega) (by omega)
  have h2:X+8≤(n+1) * (X+8):=Nat.le_mul_of_pos_left _ (by omega)
  have h3:(n+1) * (X+8)+N+8≤(n+1) * ((n+1) * (X+8)+N+8):=Nat.le_mul_of_pos_left _ (by omega)
  have h4:n * (X+1)+(X+1)≤(n+1) * (X+8):=by rw[←Nat.succ_mul];exact Nat.mul_le_mul_left _ (by omega)
  omega
 have HLC:=hd_ hLC
 have HLP:=hd_ hLP
 have HLU:=hd_ hLU
 have HCN:Hid (∀k,k≤n→N+(2+k * (X+1))+1+2≤C):=hd_ (fun k hk=>by have:=hLP k hk;omega)
 obtain⟨V,hV⟩:∃V,ar_ x qs=V:=⟨_,rfl⟩
 have HV0:Hid (0+1 * ar_ x (qs.drop 0)=V):=hd_ (by rw[List.drop_zero,hV];grind)
 have HVN:Hid (∀s p,s+p * ar_ x (qs.drop n)=V→s=V):=hd_ (fun s p h9=>by
  rw[List.drop_eq_nil_of_le (by rw[h.len];exact Nat.le_refl _)] at h9
  have h8:ar_ x []=0:=rfl
  rw[h8] at h9
  rw[←h9];grind)
 have HVS:Hid (∀k s p,k < n→s+p * ar_ x (qs.drop k)=V→(s+qs.getD k 0 * p)+p * x * ar_ x (qs.drop (k+1))=V):=hd_ (fun k s p hk h9=>by
  have hk':k < qs.length:=by rw[h.len];exact hk
  have e:qs.drop k=qs.getD k 0 :: qs.drop (k+1):=by
   rw[List.drop_eq_getElem_cons hk',List.getD_eq_getElem?_getD,List.getElem?_eq_getElem hk'];rfl
  rw[e,ar_] at h9
  rw[←h9];grind)
 have HK:=hd_ h
 rw[hV]
 have XA:=hd_ hvA
 have XD:=hd_ hvD
 obtain⟨z0,hz0⟩:∃z:Rat,((0:Int):Rat)=z:=⟨_,rfl⟩
 obtain⟨z1,hz1⟩:∃z:Rat,((1:Int):Rat)=z:=⟨_,rfl⟩
 have HI0:∀w':World,Calls Tryz.prog 15 #[.int .i64 0] w' (LstQ z0 w'):=fun w'=>hz0▸dg_ 0 w' c5_
 have HI1:∀w':World,Calls Tryz.prog 15 #[.int .i64 1] w' (LstQ z1 w'):=fun w'=>hz1▸dg_ 1 w' g0_
 have HS0:Hid (z0=0):=hd_ (by rw[←hz0];rfl)
 have HS1:Hid (z1=1):=hd_ (by rw[←hz1];rfl)
 have HL0:Hid (qlen z0≤2):=hd_ (hz0▸b4_ (by decide))
 have HL1:Hid (qlen z1≤2):=hd_ (hz1▸b4_ (by decide))
 have HB:=hd_ (ab_ (aa_ w (.cells #[.bool (zneg x.num),.slice ax nx cx,.slice bx mx dx] 27)) (aa_ _ (.cells #[.bool false,.slice none 0 0,.slice none 0 0] 27)))
 have X0:Hid (((w.alloc (.cells #[.bool (zneg x.num),.slice ax nx cx,.slice bx mx dx] 27)).alloc (.cells #[.bool false,.slice none 0 0,.slice none 0 0] 27)).heap[w.heap.size]? = some (.cells #[.bool (zneg x.num),.slice ax nx cx,.slice bx mx dx] 27 (0,0))):=hd_ (ac_ (ai_ w #[.bool (zneg x.num),.slice ax nx cx,.slice bx mx dx] 27) (aa_ _ (.cells #[.bool false,.slice none 0 0,.slice none 0 0] 27)))
 have R0:Hid (((w.alloc (.cells #[.bool (zneg x.num),.slice ax nx cx,.slice bx mx dx] 27)).alloc (.cells #[.bool false,.slice none 0 0,.slice none 0 0] 27)).heap[w.heap.size+1]? = some (.cells #[.bool false,.slice none 0 0,.slice none 0 0] 27 (0,0))):=hd_ (by have h9:=ai_ (w.alloc (.cells #[.bool (zneg x.num),.slice ax nx cx,.slice bx mx dx] 27)) #[.bool false,.slice none 0 0,.slice none 0 0] 27;rwa [al_] at h9)
 clear h hq hb hvA hvD hlx hC hLC hLP hLU hV hz0 hz1
 go_enter Tryz.func69,Tryz.ntmps69
 unfold frV
 go_wp2_with fail
 refine (HI0 _).mono ?_
 rintro e w1 ⟨a1,n1,c1,b1,m1,d1,rfl,h1,g1,b⟩
 replace HB:=bt_ HB b
 replace X0:=bl_ X0 b
 replace R0:=bl_ R0 b
 have hsz1:w.heap.size+1 < w1.heap.size:=(Array.getElem?_eq_some_iff.1 R0.out).1
 unfold frV
 have ba:=aa_ w1 (.cells #[.bool (zneg z0.num),.slice a1 n1 c1,.slice b1 m1 d1] 27)
 have S0:=hd_ (ai_ w1 #[.bool (zneg z0.num),.slice a1 n1 c1,.slice b1 m1 d1] 27)
 have SA:=h1.l_ ba
 have SD:=g1.l_ ba
 replace HB:=bt_ HB ba
 replace X0:=bl_ X0 ba
 replace R0:=bl_ R0 ba
 clear b ba h1 g1 HI0
 go_wp2_with fail
 refine (HI1 _).mono ?_
 rintro e w2 ⟨a2,n2,c2,b2,m2,d2,rfl,h2,g2,b⟩
 replace HB:=bt_ HB b
 replace X0:=bl_ X0 b
 replace R0:=bl_ R0 b
 replace S0:=bl_ S0 b
 replace SA:=SA.l_ b
 replace SD:=SD.l_ b
 have hsz2:w1.heap.size < w2.heap.size:=(Array.getElem?_eq_some_iff.1 S0.out).1
 unfold frV
 have ba:=aa_ w2 (.cells #[.bool (zneg z1.num),.slice a2 n2 c2,.slice b2 m2 d2] 27)
 have P0:=hd_ (ai_ w2 #[.bool (zneg z1.num),.slice a2 n2 c2,.slice b2 m2 d2] 27)
 have PA:=h2.l_ ba
 have PD:=g2.l_ ba
 replace HB:=bt_ HB ba
 replace X0:=bl_ X0 ba
 replace R0:=bl_ R0 ba
 replace S0:=bl_ S0 ba
 replace SA:=SA.l_ ba
 replace SD:=SD.l_ ba
 clear b ba h2 g2 HI1
 go_wp2
 go_loopw [7] (fun iv wr=>∃(k:Nat) (s:Rat) (a1:OA_) (n1 c1:Nat) (b1:OA_) (m1 d1:Nat) (p:Rat) (a2:OA_) (n2 c2:Nat) (b2:OA_) (m2 d2:Nat),k≤n∧iv=.int .i64 (k:Int)∧Hid (s+p * ar_ x (qs.drop k)=V)∧Hid (qlen s≤2+k * C)∧Hid (qlen p≤2+k * (X+1))∧
  Hid (wr.heap[w1.heap.size]? = some (.cells #[.bool (zneg s.num),.slice a1 n1 c1,.slice b1 m1 d1] 27 (0,0)))∧Hid (Wd wr a1 n1 c1 (dg s.num.natAbs))∧Hid (Wd wr b1 m1 d1 (dg s.den))∧
  Hid (wr.heap[w2.heap.size]? = some (.cells #[.bool (zneg p.num),.slice a2 n2 c2,.slice b2 m2 d2] 27 (0,0)))∧Hid (Wd wr a2 n2 c2 (dg p.num.natAbs))∧Hid (Wd wr b2 m2 d2 (dg p.den))∧
  Hid (wr.heap[w.heap.size]? = some (.cells #[.bool (zneg x.num),.slice ax nx cx,.slice bx mx dx] 27 (0,0)))∧Hid (wr.heap[w.heap.size+1]? = some (.cells #[.bool false,.slice none 0 0,.slice none 0 0] 27 (0,0)))∧Hid (Below w.heap.size w wr)) (fun iv _=>n - (intOf iv).toNat)
 case atStart=>exact⟨0,z0,a1,n1,c1,b1,m1,d1,z1,a2,n2,c2,b2,m2,d2,by omega,rfl,hd_ (by rw[HS0.out,HS1.out];exact HV0.out),hd_ (by rw[Nat.zero_mul];exact HL0.out),hd_ (by rw[Nat.zero_mul];exact HL1.out),S0,SA,SD,P0,PA,PD,X0,R0,HB⟩
 case round=>
  clear S0 SA SD P0 PA PD X0 R0 HB HL0 HL1 HS0 HS1 HV0
  obtain⟨k,s,a1,n1,c1,b1,m1,d1,p,a2,n2,c2,b2,m2,d2,hk,rfl,HV,HLs,HLp,S0,SA,SD,P0,PA,PD,X0,R0,HB⟩:=hrel
  by_cases hlt:k < n
  ·obtain⟨bb,off,rfl,a3,n3,c3,b3,m3,d3,he,hA,hD⟩:=HK.out.at hlt
   have hlq:=HLQ.out k hlt
   have HV2:=hd_ (HVS.out k s p hlt HV.out)
   generalize qs.getD k 0=q at *
   obtain⟨y,hy⟩:∃y,q * p=y:=⟨_,rfl⟩
   obtain⟨s2,hs2⟩:∃z,s+y=z:=⟨_,rfl⟩
   obtain⟨p2,hp2⟩:∃z,p * x=z:=⟨_,rfl⟩
   have hls:=HLs.out
   have hlp:=HLp.out
   have hlx:qlen x≤X:=ez_ (by rw[XA.out.len];exact hvn) (by rw[XD.out.len];exact hvm)
   have hLs1:=HLC.out k (by omega)
   have hLs2:=HLC.out (k+1) (by omega)
   have hLp1:=HLP.out k (by omega)
   have hLu:=HLU.out
   have hCN:=HCN.out k (by omega)
   have hly:qlen y≤N+(2+k * (X+1))+1:=by rw[←hy];exact Nat.le_trans (ci_ _ _) (by omega)
   have hls2:qlen s2≤2+(k+1) * C:=by
    rw[←hs2,Nat.add_mul,Nat.one_mul]
    exact Nat.le_trans (fm_ _ _) (by omega)
   have hlp2:qlen p2≤2+(k+1) * (X+1):=by
    rw[←hp2,Nat.add_mul,Nat.one_mul]
    exact Nat.le_trans (ci_ _ _) (by omega)
   have HV3:Hid (s2+p2 * ar_ x (qs.drop (k+1))=V):=hd_ (by rw[←hs2,←hp2,←hy];exact HV2.out)
   have EY:=hd_ hy
   have E2:=hd_ hs2
   have EP2:=hd_ hp2
   have HLS2:=hd_ hls2
   have HLP2:=hd_ hlp2
   have hq3:n3≤15728640000:=by rw[←hA.len];exact Nat.le_trans (a5_ _) (by omega)
   have hq4:m3≤15728640000:=by rw[←hD.len];exact Nat.le_trans (a4_ _) (by omega)
   have hs3:n1≤15728640000:=by rw[←SA.out.len];exact Nat.le_trans (a5_ _) (by omega)
   have hs4:m1≤15728640000:=by rw[←SD.out.len];exact Nat.le_trans (a4_ _) (by omega)
   have hp3:n2≤15728640000:=by rw[←PA.out.len];exact Nat.le_trans (a5_ _) (by omega)
   have hp4:m2≤15728640000:=by rw[←PD.out.len];exact Nat.le_trans (a4_ _) (by omega)
   have hx3:nx≤15728640000:=by omega
   have hx4:mx≤15728640000:=by omega
   have hyl:qlen y≤15728640000:=by omega
   have HYL:=hd_ hyl
   have QA:=hd_ hA
   have QD:=hd_ hD
   have HE:=hd_ he
   have hki:(k:Int) < (n:Int):=by omega
   have hne1:w2.heap.size≠w1.heap.size:=by omega
   have hne2:w1.heap.size≠w2.heap.size:=by omega
   clear hy hs2 hp2 hls hlp hlx hLs1 hLs2 hLp1 hLu hCN hly hls2 hlp2 hyl hA hD he hlq HV HV2 HLs HLp
   obtain⟨e0,e1,e2⟩:=an_ HE.out HB.out;obtain⟨x0,x1,x2⟩:=ao_ S0.out;obtain⟨y0,y1,y2⟩:=ao_ P0.out
   go_wp2
   have b0:Below wr.heap.size wr wr.drew:=(Below.refl _ _).drew
   replace HB:=bt_ HB b0
   replace S0:=bl_ S0 b0
   replace P0:=bl_ P0 b0
   replace X0:=bl_ X0 b0
   replace R0:=bl_ R0 b0
   replace SA:=SA.l_ b0
   replace SD:=SD.l_ b0
   replace PA:=PA.l_ b0
   replace PD:=PD.l_ b0
   clear e0 e1 e2 x0 x1 x2 y0 y1 y2 b0
   obtain⟨e0,e1,e2⟩:=an_ HE.out HB.out;obtain⟨x0,x1,x2⟩:=ao_ S0.out;obtain⟨y0,y1,y2⟩:=ao_ P0.out
   go_region_law (first
    | (go_simp;go_at_call 114;refine (fw_ _ _ q p _ (Rt.of (QA.out.later HB.out) (QD.out.later HB.out) (by omega) (by omega)) (Rt.of PA.out PD.out (by omega) (by omega))).mono ?_;rintro e w4 ⟨a4,n4,c4,b4,m4,d4,rfl,h4,g4,bw⟩;rw[EY.out] at h4 g4 ⊢;clear e0 e1 e2 x0 x1 x2 y0 y1 y2;replace HB:=bt_ HB bw;replace S0:=bl_ S0 bw;replace P0:=bl_ P0 bw;replace X0:=bl_ X0 bw;replace R0:=bl_ R0 bw;replace PA:=PA.l_ bw;replace PD:=PD.l_ bw;replace SA:=SA.l_ bw;replace SD:=SD.l_ bw;have A4:=hd_ h4;have D4:=hd_ g4;have hn4:n4≤15728640000:=Nat.le_trans (Nat.le_of_eq h4.len.symm) (Nat.le_trans (a5_ _) HYL.out);have hm4:m4≤15728640000:=Nat.le_trans (Nat.le_of_eq g4.len.symm) (Nat.le_trans (a4_ _) HYL.out);clear bw h4 g4;unfold frV;obtain⟨e0,e1,e2⟩:=an_ HE.out HB.out;obtain⟨x0,x1,x2⟩:=ao_ S0.out;obtain⟨y0,y1,y2⟩:=ao_ P0.out)
    | (go_simp;go_at_call 113;refine (ha_ _ _ s y _ (Rt.of SA.out SD.out (by omega) (by omega)) (Rt.of A4.out D4.out (by omega) (by omega))).mono ?_;rintro e w5 ⟨a5,n5,c5,b5,m5,d5,rfl,h5,g5,bw⟩;rw[E2.out] at h5 g5 ⊢;clear e0 e1 e2 x0 x1 x2 y0 y1 y2;replace HB:=bt_ HB bw;replace S0:=bl_ S0 bw;replace P0:=bl_ P0 bw;replace X0:=bl_ X0 bw;replace R0:=bl_ R0 bw;replace PA:=PA.l_ bw;replace PD:=PD.l_ bw;have A5:=hd_ h5;have D5:=hd_ g5;clear bw h5 g5 SA SD A4 D4;unfold frV;obtain⟨x0,x1,x2⟩:=ao_ S0.out;have f0:=ae_ S0.out 0;have f1:=ae_ S0.out 1;have f2:=ae_ S0.out 2))
   all_goals (
    have S9:=hd_ (be_ S0.out (.bool (zneg s2.num)) (.slice a5 n5 c5) (.slice b5 m5 d5))
    have SA9:=hd_ (A5.out.stored3 S0.out (zneg s2.num) a5 n5 c5 (.slice b5 m5 d5))
    have SD9:=hd_ (D5.out.stored3 S0.out (zneg s2.num) a5 n5 c5 (.slice b5 m5 d5))
    have P9:=hd_ (bk_ P0.out hne1 (.bool (zneg s2.num)) (.slice a5 n5 c5) (.slice b5 m5 d5))
    have PA9:=hd_ (PA.out.stored3 S0.out (zneg s2.num) a5 n5 c5 (.slice b5 m5 d5))
    have PD9:=hd_ (PD.out.stored3 S0.out (zneg s2.num) a5 n5 c5 (.slice b5 m5 d5))
    have X9:=hd_ (bk_ X0.out (show w.heap.size≠w1.heap.size by omega) (.bool (zneg s2.num)) (.slice a5 n5 c5) (.slice b5 m5 d5))
    have R9:=hd_ (bk_ R0.out (show w.heap.size+1≠w1.heap.size by omega) (.bool (zneg s2.num)) (.slice a5 n5 c5) (.slice b5 m5 d5))
    have B9:=hd_ (as_ HB.out (show w.heap.size≤w1.heap.size by omega) (.bool (zneg s2.num)) (.slice a5 n5 c5) (.slice b5 m5 d5))
    clear S0 P0 X0 R0 HB A5 D5 PA PD
    obtain⟨y0,y1,y2⟩:=ao_ P9.out
    obtain⟨z0,z1,z2⟩:=ao_ X9.out
    go_wp2_with fail
    refine (fw_ _ _ p x _ (Rt.of PA9.out PD9.out hp3 hp4) (Rt.of (XA.out.later B9.out) (XD.out.later B9.out) hx3 hx4)).mono ?_
    rintro e w6 ⟨a6,n6,c6,b6,m6,d6,rfl,h6,g6,bw⟩
    rw[EP2.out] at h6 g6 ⊢
    clear y0 y1 y2 z0 z1 z2 PA9 PD9 f0 f1 f2 x0 x1 x2
    replace B9:=bt_ B9 bw
    replace S9:=bl_ S9 bw
    replace SA9:=SA9.l_ bw
    replace SD9:=SD9.l_ bw
    replace P9:=bl_ P9 bw
    replace X9:=bl_ X9 bw
    replace R9:=bl_ R9 bw
    have A6:=hd_ h6
    have D6:=hd_ g6
    clear bw h6 g6
    unfold frV
    obtain⟨y0,y1,y2⟩:=ao_ P9.out
    have f0:=ae_ P9.out 0
    have f1:=ae_ P9.out 1
    have f2:=ae_ P9.out 2
    have S8:=hd_ (bk_ S9.out hne2 (.bool (zneg p2.num)) (.slice a6 n6 c6) (.slice b6 m6 d6))
    have SA8:=hd_ (SA9.out.stored3 P9.out (zneg p2.num) a6 n6 c6 (.slice b6 m6 d6))
    have SD8:=hd_ (SD9.out.stored3 P9.out (zneg p2.num) a6 n6 c6 (.slice b6 m6 d6))
    have P8:=hd_ (be_ P9.out (.bool (zneg p2.num)) (.slice a6 n6 c6) (.slice b6 m6 d6))
    have PA8:=hd_ (A6.out.stored3 P9.out (zneg p2.num) a6 n6 c6 (.slice b6 m6 d6))
    have PD8:=hd_ (D6.out.stored3 P9.out (zneg p2.num) a6 n6 c6 (.slice b6 m6 d6))
    have X8:=hd_ (bk_ X9.out (show w.heap.size≠w2.heap.size by omega) (.bool (zneg p2.num)) (.slice a6 n6 c6) (.slice b6 m6 d6))
    have R8:=hd_ (bk_ R9.out (show w.heap.size+1≠w2.heap.size by omega) (.bool (zneg p2.num)) (.slice a6 n6 c6) (.slice b6 m6 d6))
    have B8:=hd_ (as_ B9.out (show w.heap.size≤w2.heap.size by omega) (.bool (zneg p2.num)) (.slice a6 n6 c6) (.slice b6 m6 d6))
    clear S9 SA9 SD9 P9 X9 R9 B9 A6 D6
    go_wp2
    go_roundw
    case rel=>exact⟨k+1,s2,a5,n5,c5,b5,m5,d5,p2,a6,n6,c6,b6,m6,d6,by omega,by go_num,HV3,HLS2,HLP2,S8,SA8,SD8,P8,PA8,PD8,X8,R8,B8⟩
    case measure=>simp[intOf];omega)
  ·have hki:¬(k:Int) < (n:Int):=by omega
   obtain rfl:k=n:=by omega
   obtain rfl:s=V:=HVN.out s p HV.out
   obtain⟨x0,x1,x2⟩:=ao_ S0.out
   obtain⟨y0,y1,y2⟩:=ao_ R0.out
   have f0:=ae_ R0.out 0
   have f1:=ae_ R0.out 1
   have f2:=ae_ R0.out 2
   have R9:=hd_ (be_ R0.out (.bool (zneg s.num)) (.slice a1 n1 c1) (.slice b1 m1 d1))
   have S9:=hd_ (SA.out.stored3 R0.out (zneg s.num) a1 n1 c1 (.slice b1 m1 d1))
   have T9:=hd_ (SD.out.stored3 R0.out (zneg s.num) a1 n1 c1 (.slice b1 m1 d1))
   have G9:=hd_ (as_ HB.out (show w.heap.size≤w.heap.size+1 by omega) (.bool (zneg s.num)) (.slice a1 n1 c1) (.slice b1 m1 d1))
   clear S0 SA SD P0 PA PD X0 R0 HB HV HLs HLp HVS HVN
   go_wp2
   refine bodyPost_ret (results_cell_row Tryz.results69 _ _ (w.heap.size+1) 27 #[.bool (zneg s.num),.slice a1 n1 c1,.slice b1 m1 d1] (0,0) _ rfl R9.out Tryz.underlying27 rfl (by kernel_rfl)) rfl ?_
   exact⟨a1,n1,c1,b1,m1,d1,rfl,S9.out,T9.out,G9.out⟩
theorem hj_(q:Rat):(dg q.num.natAbs).length≤qlen q:=by unfold qlen;omega
theorem he_(q:Rat):(dg q.den).length≤qlen q:=by unfold qlen;omega
theorem p1_(a1:OA_)(n1 c1:Nat)(u1:LR_)(b1:OA_)(m1 d1:Nat)(v1:LR_)(x:Rat)(a9:OA_)(n9 c9:Nat)(b9:OA_)(m9 d9:Nat)(N X:Nat)(w:World)(ha1:Rw w a1 n1 c1 u1)(hb1:Rw w b1 m1 d1 v1)(A9:Wd w a9 n9 c9 (dg x.num.natAbs))(D9:Wd w b9 m9 d9 (dg x.den))(ln9:n9≤X)(lm9:m9≤X)(q1:∀q∈u1,qlen q≤N)(q2:∀q∈v1,qlen q≤N)(g1:(n1+1) * ((n1+1) * (X+8)+N+8)≤15728640000)(g2:(m1+1) * ((m1+1) * (X+8)+N+8)≤15728640000)(l2:qlen (ar_ x v1)≤15728640000)(h0:ar_ x v1=0) :
 Calls Tryz.prog 18 #[.agg #[.slice a1 n1 c1,.slice b1 m1 d1],(frV (zneg x.num) a9 n9 c9 b9 m9 d9)] w (en_ 0 (.bool false) w):=by
 obtain⟨V,hV⟩:∃z,ar_ x v1=z:=⟨_,rfl⟩
 obtain⟨U,hU⟩:∃z,ar_ x u1=z:=⟨_,rfl⟩
 have HE1:∀w':World,Rw w' a1 n1 c1 u1→Wd w' a9 n9 c9 (dg x.num.natAbs)→Wd w' b9 m9 d9 (dg x.den)→Calls Tryz.prog 69 #[.slice a1 n1 c1,(frV (zneg x.num) a9 n9 c9 b9 m9 d9)] w' (LstQ U w'):=fun w' k1 k2 k3=>hU▸il_ a1 n1 c1 u1 _ x N X w' k1 (Rt.of k2 k3 ln9 lm9) q1 g1
 have HE2:∀w':World,Rw w' b1 m1 d1 v1→Wd w' a9 n9 c9 (dg x.num.natAbs)→Wd w' b9 m9 d9 (dg x.den)→Calls Tryz.prog 69 #[.slice b1 m1 d1,(frV (zneg x.num) a9 n9 c9 b9 m9 d9)] w' (LstQ V w'):=fun w' k1 k2 k3=>hV▸il_ b1 m1 d1 v1 _ x N X w' k1 (Rt.of k2 k3 ln9 lm9) q2 g2
 rw[hV] at h0 l2
 have HZ:∀(w':World) (a5:OA_) (n5 c5:Nat) (b5:OA_) (m5 d5:Nat),Wd w' a5 n5 c5 (dg V.num.natAbs)→Wd w' b5 m5 d5 (dg V.den)→Calls Tryz.prog 70 #[(frV (zneg V.num) a5 n5 c5 b5 m5 d5)] w' (bf_ (.bool true) w'):=fun w' a5 n5 c5 b5 m5 d5 k1 k2=>(decide_eq_true h0:decide (V=0)=true)▸h4_ _ V w' (Rt.of k1 k2 (by have h9:=hj_ V;have:=k1.len;omega) (by have h9:=he_ V;have:=k2.len;omega))
 obtain⟨z0,hz0⟩:∃q:Rat,((0:Int):Rat)=q:=⟨_,rfl⟩
 have HI0:∀w':World,Calls Tryz.prog 15 #[.int .i64 0] w' (LstQ z0 w'):=fun w'=>hz0▸dg_ 0 w' c5_
 rw[show (0:Rat)=z0 from hz0]
 clear hz0 HE1
 have HB:=hd_ (ab_ (ab_ (aa_ w (.cells #[.slice a1 n1 c1,.slice b1 m1 d1] 24)) (aa_ _ (.cells #[.bool (zneg x.num),.slice a9 n9 c9,.slice b9 m9 d9] 27))) (aa_ _ (.cells #[.bool false,.slice none 0 0,.slice none 0 0] 27)))
 have X0:Hid ((((w.alloc (.cells #[.slice a1 n1 c1,.slice b1 m1 d1] 24)).alloc (.cells #[.bool (zneg x.num),.slice a9 n9 c9,.slice b9 m9 d9] 27)).alloc (.cells #[.bool false,.slice none 0 0,.slice none 0 0] 27)).heap[w.heap.size]? = some (.cells #[.slice a1 n1 c1,.slice b1 m1 d1] 24 (0,0))):=hd_ (ac_ (ac_ (ai_ w _ _) (aa_ _ (.cells #[.bool (zneg x.num),.slice a9 n9 c9,.slice b9 m9 d9] 27))) (aa_ _ (.cells #[.bool false,.slice none 0 0,.slice none 0 0] 27)))
 have X1:Hid ((((w.alloc (.cells #[.slice a1 n1 c1,.slice b1 m1 d1] 24)).alloc (.cells #[.bool (zneg x.num),.slice a9 n9 c9,.slice b9 m9 d9] 27)).alloc (.cells #[.bool false,.slice none 0 0,.slice none 0 0] 27)).heap[w.heap.size+1]? = some (.cells #[.bool (zneg x.num),.slice a9 n9 c9,.slice b9 m9 d9] 27 (0,0))):=hd_ (ac_ (by have h9:=ai_ (w.alloc (.cells #[.slice a1 n1 c1,.slice b1 m1 d1] 24)) #[.bool (zneg x.num),.slice a9 n9 c9,.slice b9 m9 d9] 27;rwa [al_] at h9) (aa_ _ (.cells #[.bool false,.slice none 0 0,.slice none 0 0] 27)))
 have R0:Hid ((((w.alloc (.cells #[.slice a1 n1 c1,.slice b1 m1 d1] 24)).alloc (.cells #[.bool (zneg x.num),.slice a9 n9 c9,.slice b9 m9 d9] 27)).alloc (.cells #[.bool false,.slice none 0 0,.slice none 0 0] 27)).heap[w.heap.size+1+1]? = some (.cells #[.bool false,.slice none 0 0,.slice none 0 0] 27 (0,0))):=hd_ (by have h9:=ai_ ((w.alloc (.cells #[.slice a1 n1 c1,.slice b1 m1 d1] 24)).alloc (.cells #[.bool (zneg x.num),.slice a9 n9 c9,.slice b9 m9 d9] 27)) #[.bool false,.slice none 0 0,.slice none 0 0] 27;rwa [al_,al_] at h9)
 have F1:=hd_ (ha1.later HB.out)
 have F2:=hd_ (hb1.later HB.out)
 have F3:=hd_ (A9.later HB.out)
 have F4:=hd_ (D9.later HB.out)
 clear ha1 hb1 A9 D9 ln9 lm9 q1 q2 g1 g2 l2 h0 hU hV
 go_enter Tryz.func18,Tryz.ntmps18
 obtain⟨k0,k1,k2,k3,k4⟩:=cb_ X0.out X1.out
 unfold frV
 go_wp2_with fail
 refine (HE2 _ F2.out F3.out F4.out).mono ?_
 rintro e w1 ⟨a5,n5,c5,b5,m5,d5,rfl,h5,g5,b⟩
 clear k0 k1 k2 k3 k4
 replace HB:=bt_ HB b
 replace X0:=bl_ X0 b
 replace X1:=bl_ X1 b
 replace R0:=bl_ R0 b
 have hsz:w.heap.size+1+1 < w1.heap.size:=(Array.getElem?_eq_some_iff.1 R0.out).1
 unfold frV
 have ba:=aa_ w1 (.cells #[.bool (zneg V.num),.slice a5 n5 c5,.slice b5 m5 d5] 27)
 have D0:=hd_ (ai_ w1 #[.bool (zneg V.num),.slice a5 n5 c5,.slice b5 m5 d5] 27)
 have DA:=h5.l_ ba
 have DD:=g5.l_ ba
 have bb:=ab_ b ba
 replace HB:=bt_ HB ba
 replace X0:=bl_ X0 ba
 replace X1:=bl_ X1 ba
 replace R0:=bl_ R0 ba
 replace F1:=F1.l_ bb
 replace F3:=F3.l_ bb
 replace F4:=F4.l_ bb
 clear b ba bb h5 g5 F2 HE2
 obtain⟨s0,s1,s2⟩:=ao_ D0.out
 go_wp2_with fail
 refine (HZ _ _ _ _ _ _ _ DA.out DD.out).mono ?_
 rintro e w2 ⟨rfl,b⟩
 clear s0 s1 s2
 replace HB:=bt_ HB b
 replace X0:=bl_ X0 b
 replace X1:=bl_ X1 b
 replace R0:=bl_ R0 b
 replace D0:=bl_ D0 b
 replace DA:=DA.l_ b
 replace DD:=DD.l_ b
 replace F1:=F1.l_ b
 replace F3:=F3.l_ b
 replace F4:=F4.l_ b
 clear b HZ
 go_wp2_with fail
 refine (HI0 _).mono ?_
 rintro e w3 ⟨a7,n7,c7,b7,m7,d7,rfl,h7,g7,b⟩
 unfold frV
 replace HB:=bt_ HB b
 replace R0:=bl_ R0 b
 have F7:=hd_ h7
 have G7:=hd_ g7
 clear h7 g7 b
 obtain⟨r0,r1,r2⟩:=f8_ R0.out
 have e0:=ae_ R0.out 0
 have e1:=ae_ R0.out 1
 have e2:=ae_ R0.out 2
 have R9:=hd_ (be_ R0.out (.bool (zneg z0.num)) (.slice a7 n7 c7) (.slice b7 m7 d7))
 have G9:=hd_ (as_ HB.out (show w.heap.size≤w.heap.size+1+1 by omega) (.bool (zneg z0.num)) (.slice a7 n7 c7) (.slice b7 m7 d7))
 have P9:=hd_ (F7.out.stored3 R0.out (zneg z0.num) a7 n7 c7 (.slice b7 m7 d7))
 have Q9:=hd_ (G7.out.stored3 R0.out (zneg z0.num) a7 n7 c7 (.slice b7 m7 d7))
 go_wp2
 refine bodyPost_ret (bo_ Tryz.results18 _ _ (w.heap.size+1+1) 27 #[.bool (zneg z0.num),.slice a7 n7 c7,.slice b7 m7 d7] (0,0) _ rfl R9.out Tryz.underlying27 rfl (by kernel_rfl)) rfl ?_
 exact⟨a7,n7,c7,b7,m7,d7,rfl,P9.out,Q9.out,G9.out⟩
theorem ng_(a1:OA_)(n1 c1:Nat)(u1:LR_)(b1:OA_)(m1 d1:Nat)(v1:LR_)(x:Rat)(a9:OA_)(n9 c9:Nat)(b9:OA_)(m9 d9:Nat)(N X:Nat)(w:World)(ha1:Rw w a1 n1 c1 u1)(hb1:Rw w b1 m1 d1 v1)(A9:Wd w a9 n9 c9 (dg x.num.natAbs))(D9:Wd w b9 m9 d9 (dg x.den))(ln9:n9≤X)(lm9:m9≤X)(q1:∀q∈u1,qlen q≤N)(q2:∀q∈v1,qlen q≤N)(g1:(n1+1) * ((n1+1) * (X+8)+N+8)≤15728640000)(g2:(m1+1) * ((m1+1) * (X+8)+N+8)≤15728640000)(l1:qlen (ar_ x u1)≤15728640000)(l2:qlen (ar_ x v1)≤15728640000)(h0:ar_ x v1≠0) :
 Calls Tryz.prog 18 #[.agg #[.slice a1 n1 c1,.slice b1 m1 d1],(frV (zneg x.num) a9 n9 c9 b9 m9 d9)] w (en_ (ar_ x u1 / ar_ x v1) (.bool true) w):=by
 obtain⟨V,hV⟩:∃z,ar_ x v1=z:=⟨_,rfl⟩
 obtain⟨U,hU⟩:∃z,ar_ x u1=z:=⟨_,rfl⟩
 have HE1:∀w':World,Rw w' a1 n1 c1 u1→Wd w' a9 n9 c9 (dg x.num.natAbs)→Wd w' b9 m9 d9 (dg x.den)→Calls Tryz.prog 69 #[.slice a1 n1 c1,(frV (zneg x.num) a9 n9 c9 b9 m9 d9)] w' (LstQ U w'):=fun w' k1 k2 k3=>hU▸il_ a1 n1 c1 u1 _ x N X w' k1 (Rt.of k2 k3 ln9 lm9) q1 g1
 have HE2:∀w':World,Rw w' b1 m1 d1 v1→Wd w' a9 n9 c9 (dg x.num.natAbs)→Wd w' b9 m9 d9 (dg x.den)→Calls Tryz.prog 69 #[.slice b1 m1 d1,(frV (zneg x.num) a9 n9 c9 b9 m9 d9)] w' (LstQ V w'):=fun w' k1 k2 k3=>hV▸il_ b1 m1 d1 v1 _ x N X w' k1 (Rt.of k2 k3 ln9 lm9) q2 g2
 rw[hV] at h0 l2
 rw[hU] at l1
 have HZ:∀(w':World) (a5:OA_) (n5 c5:Nat) (b5:OA_) (m5 d5:Nat),Wd w' a5 n5 c5 (dg V.num.natAbs)→Wd w' b5 m5 d5 (dg V.den)→Calls Tryz.prog 70 #[(frV (zneg V.num) a5 n5 c5 b5 m5 d5)] w' (bf_ (.bool false) w'):=fun w' a5 n5 c5 b5 m5 d5 k1 k2=>(decide_eq_false h0:decide (V=0)=false)▸h4_ _ V w' (Rt.of k1 k2 (by have h9:=hj_ V;have:=k1.len;omega) (by have h9:=he_ V;have:=k2.len;omega))
 obtain⟨qq,hqq⟩:∃q:Rat,U / V=q:=⟨_,rfl⟩
 have HQU:∀(w':World) (a4:OA_) (n4 c4:Nat) (b4:OA_) (m4 d4:Nat) (a5:OA_) (n5 c5:Nat) (b5:OA_) (m5 d5:Nat),Wd w' a4 n4 c4 (dg U.num.natAbs)→Wd w' b4 m4 d4 (dg U.den)→Wd w' a5 n5 c5 (dg V.num.natAbs)→Wd w' b5 m5 d5 (dg V.den)→Calls Tryz.prog 54 #[(frV (zneg U.num) a4 n4 c4 b4 m4 d4),(frV (zneg V.num) a5 n5 c5 b5 m5 d5)] w' (LstQ qq w'):=fun w' a4 n4 c4 b4 m4 d4 a5 n5 c5 b5 m5 d5 k1 k2 k3 k4=>hqq▸hf_ _ _ U V w' (Rt.of k1 k2 (by have h9:=hj_ U;have:=k1.len;omega) (by have h9:=he_ U;have:=k2.len;omega)) (Rt.of k3 k4 (by have h9:=hj_ V;have:=k3.len;omega) (by have h9:=he_ V;have:=k4.len;omega))
 rw[hU,hV,hqq]
 clear hqq
 have HB:=hd_ (ab_ (ab_ (aa_ w (.cells #[.slice a1 n1 c1,.slice b1 m1 d1] 24)) (aa_ _ (.cells #[.bool (zneg x.num),.slice a9 n9 c9,.slice b9 m9 d9] 27))) (aa_ _ (.cells #[.bool false,.slice none 0 0,.slice none 0 0] 27)))
 have X0:Hid ((((w.alloc (.cells #[.slice a1 n1 c1,.slice b1 m1 d1] 24)).alloc (.cells #[.bool (zneg x.num),.slice a9 n9 c9,.slice b9 m9 d9] 27)).alloc (.cells #[.bool false,.slice none 0 0,.slice none 0 0] 27)).heap[w.heap.size]? = some (.cells #[.slice a1 n1 c1,.slice b1 m1 d1] 24 (0,0))):=hd_ (ac_ (ac_ (ai_ w _ _) (aa_ _ (.cells #[.bool (zneg x.num),.slice a9 n9 c9,.slice b9 m9 d9] 27))) (aa_ _ (.cells #[.bool false,.slice none 0 0,.slice none 0 0] 27)))
 have X1:Hid ((((w.alloc (.cells #[.slice a1 n1 c1,.slice b1 m1 d1] 24)).alloc (.cells #[.bool (zneg x.num),.slice a9 n9 c9,.slice b9 m9 d9] 27)).alloc (.cells #[.bool false,.slice none 0 0,.slice none 0 0] 27)).heap[w.heap.size+1]? = some (.cells #[.bool (zneg x.num),.slice a9 n9 c9,.slice b9 m9 d9] 27 (0,0))):=hd_ (ac_ (by have h9:=ai_ (w.alloc (.cells #[.slice a1 n1 c1,.slice b1 m1 d1] 24)) #[.bool (zneg x.num),.slice a9 n9 c9,.slice b9 m9 d9] 27;rwa [al_] at h9) (aa_ _ (.cells #[.bool false,.slice none 0 0,.slice none 0 0] 27)))
 have R0:Hid ((((w.alloc (.cells #[.slice a1 n1 c1,.slice b1 m1 d1] 24)).alloc (.cells #[.bool (zneg x.num),.slice a9 n9 c9,.slice b9 m9 d9] 27)).alloc (.cells #[.bool false,.slice none 0 0,.slice none 0 0] 27)).heap[w.heap.size+1+1]? = some (.cells #[.bool false,.slice none 0 0,.slice none 0 0] 27 (0,0))):=hd_ (by have h9:=ai_ ((w.alloc (.cells #[.slice a1 n1 c1,.slice b1 m1 d1] 24)).alloc (.cells #[.bool (zneg x.num),.slice a9 n9 c9,.slice b9 m9 d9] 27)) #[.bool false,.slice none 0 0,.slice none 0 0] 27;rwa [al_,al_] at h9)
 have F1:=hd_ (ha1.later HB.out)
 have F2:=hd_ (hb1.later HB.out)
 have F3:=hd_ (A9.later HB.out)
 have F4:=hd_ (D9.later HB.out)
 clear ha1 hb1 A9 D9 ln9 lm9 q1 q2 g1 g2 l1 l2 h0 hU hV
 go_enter Tryz.func18,Tryz.ntmps18
 obtain⟨k0,k1,k2,k3,k4⟩:=cb_ X0.out X1.out
 unfold frV
 go_wp2_with fail
 refine (HE2 _ F2.out F3.out F4.out).mono ?_
 rintro e w1 ⟨a5,n5,c5,b5,m5,d5,rfl,h5,g5,b⟩
 clear k0 k1 k2 k3 k4
 replace HB:=bt_ HB b
 replace X0:=bl_ X0 b
 replace X1:=bl_ X1 b
 replace R0:=bl_ R0 b
 have hsz:w.heap.size+1+1 < w1.heap.size:=(Array.getElem?_eq_some_iff.1 R0.out).1
 unfold frV
 have ba:=aa_ w1 (.cells #[.bool (zneg V.num),.slice a5 n5 c5,.slice b5 m5 d5] 27)
 have D0:=hd_ (ai_ w1 #[.bool (zneg V.num),.slice a5 n5 c5,.slice b5 m5 d5] 27)
 have DA:=h5.l_ ba
 have DD:=g5.l_ ba
 have bb:=ab_ b ba
 replace HB:=bt_ HB ba
 replace X0:=bl_ X0 ba
 replace X1:=bl_ X1 ba
 replace R0:=bl_ R0 ba
 replace F1:=F1.l_ bb
 replace F3:=F3.l_ bb
 replace F4:=F4.l_ bb
 clear b ba bb h5 g5 F2 HE2
 obtain⟨s0,s1,s2⟩:=ao_ D0.out
 go_wp2_with fail
 refine (HZ _ _ _ _ _ _ _ DA.out DD.out).mono ?_
 rintro e w2 ⟨rfl,b⟩
 clear s0 s1 s2
 replace HB:=bt_ HB b
 replace X0:=bl_ X0 b
 replace X1:=bl_ X1 b
 replace R0:=bl_ R0 b
 replace D0:=bl_ D0 b
 replace DA:=DA.l_ b
 replace DD:=DD.l_ b
 replace F1:=F1.l_ b
 replace F3:=F3.l_ b
 replace F4:=F4.l_ b
 clear b HZ
 go_wp2
 generalize w2=W at *
 replace HB:=bt_ HB (dw_ W)
 replace X0:Hid (W.drew.heap[w.heap.size]? = _):=hd_ X0.out
 replace X1:Hid (W.drew.heap[w.heap.size+1]? = _):=hd_ X1.out
 replace D0:Hid (W.drew.heap[w1.heap.size]? = _):=hd_ D0.out
 replace R0:Hid (W.drew.heap[w.heap.size+1+1]? = some (.cells #[.bool false,.slice none 0 0,.slice none 0 0] 27 (0,0))):=hd_ R0.out
 replace F1:=F1.l_ (dw_ W)
 replace F3:=F3.l_ (dw_ W)
 replace F4:=F4.l_ (dw_ W)
 replace DA:=DA.l_ (dw_ W)
 replace DD:=DD.l_ (dw_ W)
 have pSn:=gg_ X0.out X1.out D0.out
 go_region_held3 (fun w'=>w'.cell? ⟨w.heap.size,0,none⟩=some (.slice a1 n1 c1)∧w'.cell? ⟨w.heap.size,1,none⟩=some (.slice b1 m1 d1)∧w'.cell? ⟨w.heap.size+1,0,none⟩=some (.bool (zneg x.num))∧w'.cell? ⟨w.heap.size+1,1,none⟩=some (.slice a9 n9 c9)∧w'.cell? ⟨w.heap.size+1,2,none⟩=some (.slice b9 m9 d9)∧w'.cell? ⟨w1.heap.size,0,none⟩=some (.bool (zneg V.num))∧w'.cell? ⟨w1.heap.size,1,none⟩=some (.slice a5 n5 c5)∧w'.cell? ⟨w1.heap.size,2,none⟩=some (.slice b5 m5 d5)) (first | exact pSn | exact pSb _ _ _)
  (first
  | (go_at_call 69;(first
    | (refine (HE1 _ F1.out F3.out F4.out).mono ?_;rintro e wp1 ⟨a21,n21,c21,b21,m21,d21,rfl,h21,g21,b⟩;replace HB:=bt_ HB b;replace X0:=bl_ X0 b;replace X1:=bl_ X1 b;replace D0:=bl_ D0 b;replace R0:=bl_ R0 b;replace F1:=F1.l_ b;replace F3:=F3.l_ b;replace F4:=F4.l_ b;replace DA:=DA.l_ b;replace DD:=DD.l_ b;have Z1:=hd_ h21;have Z2:=hd_ g21;clear h21 g21;unfold frV;clear b;clear pSn;have pSn:=gg_ X0.out X1.out D0.out;have pM1:=True.intro)))
  | (go_at_call 54;(first
    | (have pm1:=pM1;refine (HQU _ _ _ _ _ _ _ _ _ _ _ _ _ Z1.out Z2.out DA.out DD.out).mono ?_;rintro e wp2 ⟨a22,n22,c22,b22,m22,d22,rfl,h22,g22,b⟩;replace HB:=bt_ HB b;replace X0:=bl_ X0 b;replace X1:=bl_ X1 b;replace D0:=bl_ D0 b;replace R0:=bl_ R0 b;replace F1:=F1.l_ b;replace F3:=F3.l_ b;replace F4:=F4.l_ b;replace DA:=DA.l_ b;replace DD:=DD.l_ b;clear Z1;clear Z2;have F22:=hd_ h22;have G22:=hd_ g22;clear h22 g22;unfold frV;obtain⟨r0,r1,r2⟩:=f8_ R0.out;have e0:=ae_ R0.out 0;have e1:=ae_ R0.out 1;have e2:=ae_ R0.out 2;have pSb:=fun u v q=>gg_ (bk_ (g:=w.heap.size+1+1) X0.out (by omega) u v q) (bk_ (g:=w.heap.size+1+1) X1.out (by omega) u v q) (bk_ (g:=w.heap.size+1+1) D0.out (by omega) u v q);clear b;clear pSn;have pSn:=gg_ X0.out X1.out D0.out;clear pM1 pm1;have pM2:=True.intro))))
 have R9:=hd_ (be_ R0.out (.bool (zneg qq.num)) (.slice a22 n22 c22) (.slice b22 m22 d22))
 have G9:=hd_ (as_ HB.out (show w.heap.size≤w.heap.size+1+1 by omega) (.bool (zneg qq.num)) (.slice a22 n22 c22) (.slice b22 m22 d22))
 have P9:=hd_ (F22.out.stored3 R0.out (zneg qq.num) a22 n22 c22 (.slice b22 m22 d22))
 have Q9:=hd_ (G22.out.stored3 R0.out (zneg qq.num) a22 n22 c22 (.slice b22 m22 d22))
 go_wp2
 refine bodyPost_ret (bo_ Tryz.results18 _ _ (w.heap.size+1+1) 27 #[.bool (zneg qq.num),.slice a22 n22 c22,.slice b22 m22 d22] (0,0) _ rfl R9.out Tryz.underlying27 rfl (by kernel_rfl)) rfl ?_
 exact⟨a22,n22,c22,b22,m22,d22,rfl,P9.out,Q9.out,G9.out⟩

end Go.Proofs.YtocebjbjnfammaaGreat
