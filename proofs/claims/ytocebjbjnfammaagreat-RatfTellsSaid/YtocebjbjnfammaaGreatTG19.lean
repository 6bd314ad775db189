import Derived.Test.YtocebjbjnfammaaGreatTG18
import Derived.Deep.RegionHeld3
import Derived.Deep.CutRange
import Derived.Deep.RegionWith
import Derived.Test.YtocebjbjnfammaaGreatTG13
import Derived.Deep.RegionLaw
import Derived.Test.YtocebjbjnfammaaGreatTG1
set_option maxRecDepth 4096
set_option maxHeartbeats 16000000
namespace Go.Proofs.YtocebjbjnfammaaGreat
open Go.RowKit
theorem PartP.of{U U' V x y g:List Rat}{h K:Nat}(p:PartP U V h K x y g)(e:peq U U'):PartP U' V h K x y g:=⟨p.nx,p.ny,p.ng,e.symm.trans p.dx,p.dy,⟨p.gcd.1.of e (peq.refl _) (peq.refl _),p.gcd.2⟩,p.sz⟩
theorem Fz.slopes{U V:List Rat}{h s:Nat}(f:Fz U V h s)(hh:h≤1000000):Fz (ah_ (bw_ V)) V h (s+1):=by
 obtain⟨a,b,c,c1,c2,c3,c4⟩:=f
 have hl:=fd_ V
 have h1:Fz (bw_ V) V h (s+1):=⟨by omega,b,c,c1,Nat.le_trans c2 (ch_ (by omega)),c4.diff (by omega),c4.mono (ch_ (by omega))⟩
 exact h1.same (au_ _).symm (peq.refl _) (Nat.le_trans (az_ _) (by omega)) b
theorem ratf_diff(S:PolySaid)(FS:FracSaid)(a:OA_)(n c:Nat)(b:OA_)(m d:Nat)(u v:LR_)(h s:Nat)(w:World)(hA:Fv w a n c b m d u v h s)(hk:Fok (h+h) (s+s+3)):Calls Tryz.prog 26 #[.agg #[.slice a n c,.slice b m d]] w (LstF (dup u v) (pmul v v) w):=by
 obtain⟨hu,fu,h1⟩:=fv_two hA
 have HNA:∀w':World,Fv w' a n c b m d u v h s→Calls Tryz.prog 20 #[.agg #[.slice a n c,.slice b m d]] w' (LstE u v w'):=fun w' g=>hn_ S FS a n c b m d u v (h+h) s w' (g.mono (by omega) (Nat.le_refl _)) (hk.less (by omega) (by omega) (by omega))
 have hk0:Pok h (s+1):=hk.2.2.2.less (by omega) (by omega)
 have hh50:=hk0.1
 have hfew:=pok_few hk0
 have hRR:(s+1+1) * (2 * h+1)=(s+1+1) * (2 * h)+(s+1+1):=by rw[Nat.mul_add,Nat.mul_one]
 have hsR:s+1≤(s+1+1) * (2 * h):=Nat.le_trans (Nat.le_succ _) (Nat.le_mul_of_pos_right _ (by omega))
 have hsub:1+h * (2 * ((s+1+1) * (2 * h))+7)≤900000000:=by
  have e1:=hk.2.2.2.2
  have e2:(s+s+3+1) * (2 * (h+h)+1)=4 * ((s+1+1) * (2 * h))+(s+s+4):=by
   rw[Nat.mul_add,Nat.mul_one]
   congr 1
   rw[show s+s+3+1=2 * (s+1+1) by omega,show 2 * (h+h)=2 * (2 * h) by omega,Nat.mul_assoc,Nat.mul_left_comm (s+1+1) 2 (2 * h)]
   omega
  rw[e2] at e1
  have e3:h * (2 * ((s+1+1) * (2 * h))+7)≤h * (4 * ((s+1+1) * (2 * h))+(s+s+4)+5):=Nat.mul_le_mul_left _ (by omega)
  have e4:(4 * (h+h)+24) * (4 * ((s+1+1) * (2 * h))+(s+s+4)+5)=8 * (h * (4 * ((s+1+1) * (2 * h))+(s+s+4)+5))+24 * (4 * ((s+1+1) * (2 * h))+(s+s+4)+5):=by rw[show 4 * (h+h)+24=8 * h+24 by omega,Nat.add_mul,Nat.mul_assoc]
  omega
 have hst:s+1+2≤1900000000:=by omega
 have fv:=fu.slopes (by omega)
 have fw:=fu.swap.slopes (by omega)
 obtain⟨KK,hKK⟩:∃K,(s+1+1) * (2 * h+1)+2=K:=⟨_,rfl⟩
 have HP1:∀(w':World) (a3:OA_) (n3 c3:Nat) (b3:OA_) (m3 d3:Nat),Rw w' a3 n3 c3 (ah_ (bw_ v))→Rw w' b3 m3 d3 v→Calls Tryz.prog 62 #[.slice a3 n3 c3,.slice b3 m3 d3] w' (o1_ (ah_ (bw_ v)) v h KK w'):=fun w' a3 n3 c3 b3 m3 d3 g1 g2=>hKK▸i1_ S a3 n3 c3 _ b3 m3 d3 v h (s+1) w' ((Pv.small g1 fv.fst).more hst) ((Pv.small g2 fv.snd).more hst) fv hk0 hu.v0
 obtain⟨RR,hR⟩:∃R,(s+1+1) * (2 * h)=R:=⟨_,rfl⟩
 rw[hR] at hsR hsub
 have HSX:Hid (∀x1 y1 g,PartP (ah_ (bw_ v)) v h KK x1 y1 g→Fz x1 y1 h RR):=hd_ (fun x1 y1 g p=>hR▸fv.right (p.isF hu.monic) h1 (by omega))
 have HDV:∀(w':World) (a3:OA_) (n3 c3:Nat),Rw w' a3 n3 c3 v→Calls Tryz.prog 77 #[.slice a3 n3 c3] w' (b5_ (ah_ (bw_ v)) w'):=fun w' a3 n3 c3 g=>diff_pv S (Pv.small g fv.snd) (by rw[←g.len];have:=fv.lv;omega) (by omega)
 have HDU:∀(w':World) (a3:OA_) (n3 c3:Nat),Rw w' a3 n3 c3 u→Calls Tryz.prog 77 #[.slice a3 n3 c3] w' (b5_ (ah_ (bw_ u)) w'):=fun w' a3 n3 c3 g=>diff_pv S (Pv.small g fw.snd) (by rw[←g.len];have:=fw.lv;omega) (by omega)
 have HU:Hid (Sm u h RR∧Sm v h RR∧Sm (ah_ (bw_ u)) h RR):=hd_ ⟨(fu.mono (Nat.le_refl _) (by omega:s≤RR)).fst,(fu.mono (Nat.le_refl _) (by omega:s≤RR)).snd,(fw.mono (Nat.le_refl _) hsR).fst⟩
 have HMU:∀(w':World) (a3:OA_) (n3 c3:Nat) (p:LR_) (a4:OA_) (n4 c4:Nat) (q:LR_),Rw w' a3 n3 c3 p→Rw w' a4 n4 c4 q→Sm p h RR→Sm q h RR→Calls Tryz.prog 75 #[.slice a3 n3 c3,.slice a4 n4 c4] w' (b5_ (ah_ (pmul p q)) w'):=fun w' a3 n3 c3 p a4 n4 c4 q g1 g2 g3 g4=>q2_ S (Pv.small g1 g3) (Pv.small g2 g4) (by rw[←g1.len];have:=g3.1;omega) (by rw[←g2.len];have:=g4.1;omega) (pok_mul hk0 (by rw[←g1.len];exact g3.1) (by omega) (by omega))
 have HSU:∀(p q p' q':LR_),Sm p h RR→Sm q h RR→Sm p' h RR→Sm q' h RR→∀(w':World) (a3:OA_) (n3 c3:Nat) (a4:OA_) (n4 c4:Nat),Rw w' a3 n3 c3 (ah_ (pmul p q))→Rw w' a4 n4 c4 (ah_ (pmul p' q'))→Calls Tryz.prog 78 #[.slice a3 n3 c3,.slice a4 n4 c4] w' (b5_ (ah_ (psub (ah_ (pmul p q)) (ah_ (pmul p' q')))) w'):=fun p q p' q' g1 g2 g3 g4 w' a3 n3 c3 a4 n4 c4 k1 k2=>sub_pv S (Pv.right k1 (qt_ (N:=900000000) g1 g2 hsub)) (Pv.right k2 (qt_ (N:=900000000) g3 g4 hsub)) (by rw[←k1.len];have:=qu_ g1 g2;omega) (by rw[←k2.len];have:=qu_ g3 g4;omega) (Nat.le_refl _) (Nat.le_refl _)
 have HEN:Hid (∀slope rest g,PartP (ah_ (bw_ v)) v h KK slope rest g→isF (dup u v) (pmul v v) (ah_ (psub (ah_ (pmul (ah_ (bw_ u)) rest)) (ah_ (pmul u slope)))) (ah_ (pmul v rest))):=hd_ (fun slope rest g p=>isF_dup hu (p.of (au_ _)) ((au_ _).trans (c6_ ((au_ _).trans (a1_ (au_ _) (peq.refl _))) (bu_ _ (au_ _)))) (a7_ _) (au_ _) (a7_ _))
 have HB:=hd_ (ab_ (aa_ w (.cells #[.slice a n c,.slice b m d] 35)) (aa_ _ (.cells #[.slice none 0 0,.slice none 0 0] 35)))
 have X0:Hid (((w.alloc (.cells #[.slice a n c,.slice b m d] 35)).alloc (.cells #[.slice none 0 0,.slice none 0 0] 35)).heap[w.heap.size]? = some (.cells #[.slice a n c,.slice b m d] 35 (0,0))):=hd_ (ac_ (ai_ w _ _) (aa_ _ (.cells #[.slice none 0 0,.slice none 0 0] 35)))
 have R0:Hid (((w.alloc (.cells #[.slice a n c,.slice b m d] 35)).alloc (.cells #[.slice none 0 0,.slice none 0 0] 35)).heap[w.heap.size+1]? = some (.cells #[.slice none 0 0,.slice none 0 0] 35 (0,0))):=hd_ (by have h9:=ai_ (w.alloc (.cells #[.slice a n c,.slice b m d] 35)) #[.slice none 0 0,.slice none 0 0] 35;rwa [al_] at h9)
 have FA:=hd_ (hA.later HB.out)
 have x0:=ad_ X0.out 0
 have x1:=ad_ X0.out 1
 simp only[List.getElem?_toArray,List.getElem?_cons_zero,List.getElem?_cons_succ] at x0 x1
 generalize dup u v=dd at *
 generalize ah_ (bw_ v)=dv at *
 generalize ah_ (bw_ u)=du at *
 clear hA hk hk0 hu fu h1 hh50 hfew hRR hsR hsub hst fv fw hKK hR
 go_enter Tryz.func26,Tryz.ntmps26
 go_wp2_with fail
 refine (HNA _ FA.out).mono ?_
 rintro e w1 ⟨a1,n1,c1,b1,m1,d1,rfl,h1,g1,b⟩
 clear x0 x1 FA HNA
 replace HB:=bt_ HB b
 replace X0:=bl_ X0 b
 replace R0:=bl_ R0 b
 obtain⟨x0,x1⟩:=bd_ X0.out
 have e0:=ae_ X0.out 0
 have e1:=ae_ X0.out 1
 have AA:=hd_ (h1.boxed X0.out (.slice a1 n1 c1) (.slice b1 m1 d1))
 have BB:=hd_ (g1.boxed X0.out (.slice a1 n1 c1) (.slice b1 m1 d1))
 replace HB:=hd_ (ay_ HB.out (show w.heap.size≤w.heap.size by omega) (.slice a1 n1 c1) (.slice b1 m1 d1))
 replace R0:=hd_ (db_ (g:=w.heap.size) R0.out (show w.heap.size+1≠w.heap.size by omega) (.slice a1 n1 c1) (.slice b1 m1 d1))
 replace X0:=hd_ (bj_ X0.out (.slice a1 n1 c1) (.slice b1 m1 d1))
 clear b h1 g1
 go_wp2
 clear x0 x1 e0 e1
 generalize ((w1.setCell ⟨w.heap.size,0,none⟩ (.slice a1 n1 c1)).setCell ⟨w.heap.size,1,none⟩ (.slice b1 m1 d1))=W at *
 replace HB:=bt_ HB (dw_ W)
 replace X0:Hid (W.drew.heap[w.heap.size]? = _):=hd_ X0.out
 replace R0:Hid (W.drew.heap[w.heap.size+1]? = some (.cells #[.slice none 0 0,.slice none 0 0] 35 (0,0))):=hd_ R0.out
 replace AA:=AA.l_ (dw_ W)
 replace BB:=BB.l_ (dw_ W)
 have pSn:=c4_ X0.out
 go_region_held3 (fun w'=>w'.cell? ⟨w.heap.size,0,none⟩=some (.slice a1 n1 c1)∧w'.cell? ⟨w.heap.size,1,none⟩=some (.slice b1 m1 d1)) (exact pSn)
  (first
  | (go_at_call 77;(first
    | (refine (HDV _ _ _ _ BB.out).mono ?_;rintro e wp1 ⟨a21,n21,c21,rfl,h21,b⟩;replace HB:=bt_ HB b;replace X0:=bl_ X0 b;replace R0:=bl_ R0 b;replace AA:=AA.l_ b;replace BB:=BB.l_ b;have DV:=hd_ h21;clear h21;clear b;clear pSn;have pSn:=c4_ X0.out;have pM1:=True.intro)))
  | (go_at_call 62;(first
    | (have pm1:=pM1;refine (HP1 _ _ _ _ _ _ _ DV.out BB.out).mono ?_;rintro e wp2 ⟨a3,n3,c3,sl,a4,n4,c4,re,a5,n5,c5,g,rfl,h3,h4,h5,p1,b⟩;replace HB:=bt_ HB b;replace X0:=bl_ X0 b;replace R0:=bl_ R0 b;replace AA:=AA.l_ b;replace BB:=BB.l_ b;clear DV;have SS:=hd_ h3;have RE:=hd_ h4;have PP:=hd_ p1;clear h3 h4 h5 p1;clear b;clear pSn;have pSn:=c4_ X0.out;clear pM1 pm1;have pM2:=True.intro))))
 have f1:=HSX.out _ _ _ PP.out
 have HM3:=fun (w':World) (a6:OA_) (n6 c6:Nat) (k1:Rw w' a6 n6 c6 du) (k2:Rw w' a4 n4 c4 re)=>HMU w' a6 n6 c6 du a4 n4 c4 re k1 k2 HU.out.2.2 f1.snd
 have HM4:=fun (w':World) (k1:Rw w' a1 n1 c1 u) (k2:Rw w' a3 n3 c3 sl)=>HMU w' a1 n1 c1 u a3 n3 c3 sl k1 k2 HU.out.1 f1.fst
 have HM6:=fun (w':World) (k1:Rw w' b1 m1 d1 v) (k2:Rw w' a4 n4 c4 re)=>HMU w' b1 m1 d1 v a4 n4 c4 re k1 k2 HU.out.2.1 f1.snd
 have HS3:=HSU du re u sl HU.out.2.2 f1.snd HU.out.1 f1.fst
 have KF:=hd_ (HEN.out _ _ _ PP.out)
 generalize ah_ (pmul du re)=pa at *
 generalize ah_ (pmul u sl)=pb at *
 generalize ah_ (psub pa pb)=up at *
 generalize ah_ (pmul v re)=pc at *
 clear f1 HSX HU HMU HSU HEN PP HDV HP1
 go_wp2
 replace HB:=bt_ HB (dw_ wp2)
 replace X0:Hid (wp2.drew.heap[w.heap.size]? = _):=hd_ X0.out
 replace R0:Hid (wp2.drew.heap[w.heap.size+1]? = some (.cells #[.slice none 0 0,.slice none 0 0] 35 (0,0))):=hd_ R0.out
 replace AA:=AA.l_ (dw_ wp2)
 replace BB:=BB.l_ (dw_ wp2)
 replace SS:=SS.l_ (dw_ wp2)
 replace RE:=RE.l_ (dw_ wp2)
 have qSn:=c4_ X0.out
 go_region_held3 (fun w'=>w'.cell? ⟨w.heap.size,0,none⟩=some (.slice a1 n1 c1)∧w'.cell? ⟨w.heap.size,1,none⟩=some (.slice b1 m1 d1)) (exact qSn)
  (first
  | (go_at_call 77;(first
    | (refine (HDU _ _ _ _ AA.out).mono ?_;rintro e wq1 ⟨a31,n31,c31,rfl,h31,b⟩;replace HB:=bt_ HB b;replace X0:=bl_ X0 b;replace R0:=bl_ R0 b;replace AA:=AA.l_ b;replace BB:=BB.l_ b;replace SS:=SS.l_ b;replace RE:=RE.l_ b;have DU:=hd_ h31;clear h31;clear b;clear qSn;have qSn:=c4_ X0.out;have qM1:=True.intro)))
  | (go_at_call 75;(first
    | (have qm2:=qM2;refine (HM4 _ AA.out SS.out).mono ?_;rintro e wq3 ⟨a33,n33,c33,rfl,h33,b⟩;replace HB:=bt_ HB b;replace X0:=bl_ X0 b;replace R0:=bl_ R0 b;replace AA:=AA.l_ b;replace BB:=BB.l_ b;replace SS:=SS.l_ b;replace RE:=RE.l_ b;replace P3:=P3.l_ b;have P4:=hd_ h33;clear h33;clear b;clear qSn;have qSn:=c4_ X0.out;clear qM2 qm2;have qM3:=True.intro)
    | (have qm1:=qM1;refine (HM3 _ _ _ _ DU.out RE.out).mono ?_;rintro e wq2 ⟨a32,n32,c32,rfl,h32,b⟩;replace HB:=bt_ HB b;replace X0:=bl_ X0 b;replace R0:=bl_ R0 b;replace AA:=AA.l_ b;replace BB:=BB.l_ b;replace SS:=SS.l_ b;replace RE:=RE.l_ b;clear DU;have P3:=hd_ h32;clear h32;clear b;clear qSn;have qSn:=c4_ X0.out;clear qM1 qm1;have qM2:=True.intro)))
  | (go_at_call 78;(first
    | (have qm3:=qM3;refine (HS3 _ _ _ _ _ _ _ P3.out P4.out).mono ?_;rintro e wq4 ⟨a34,n34,c34,rfl,h34,b⟩;replace HB:=bt_ HB b;replace X0:=bl_ X0 b;replace R0:=bl_ R0 b;replace AA:=AA.l_ b;replace BB:=BB.l_ b;replace SS:=SS.l_ b;replace RE:=RE.l_ b;replace P3:=P3.l_ b;clear P4;have P9:=hd_ h34;clear h34;clear b;clear qSn;have qSn:=c4_ X0.out;clear qM3 qm3;have qM4:=True.intro))))
 obtain⟨x0,x1⟩:=bd_ X0.out
 go_wp2_with fail
 refine (HM6 _ BB.out RE.out).mono ?_
 rintro e w7 ⟨a9,n9,c9,rfl,h9,bw⟩
 replace HB:=bt_ HB bw
 replace R0:=bl_ R0 bw
 replace P9:=P9.l_ bw
 have Q9:=hd_ h9
 clear bw h9 HM6 x0 x1 AA BB SS RE X0 HM3 HM4 HS3 HDU
 obtain⟨r0,r1⟩:=bd_ R0.out
 have e0:=ae_ R0.out 0
 have e1:=ae_ R0.out 1
 have R9:=hd_ (bj_ R0.out (.slice a34 n34 c34) (.slice a9 n9 c9))
 replace P9:=hd_ (P9.out.boxed R0.out (.slice a34 n34 c34) (.slice a9 n9 c9))
 replace Q9:=hd_ (Q9.out.boxed R0.out (.slice a34 n34 c34) (.slice a9 n9 c9))
 have G9:=hd_ (ay_ HB.out (show w.heap.size≤w.heap.size+1 by omega) (.slice a34 n34 c34) (.slice a9 n9 c9))
 go_wp2
 refine bodyPost_ret (results_cell_row Tryz.results26 _ _ (w.heap.size+1) 35 #[.slice a34 n34 c34,.slice a9 n9 c9] (0,0) _ rfl R9.out Tryz.underlying35 rfl (by kernel_rfl)) rfl ?_
 exact⟨a34,n34,c34,up,a9,n9,c9,pc,rfl,P9.out,Q9.out,KF.out,G9.out⟩
theorem isF.none_iff{U V u v:List Rat}(h:isF U V u v):(plen U=0∨plen V=0)↔u=[]:=by
 refine ⟨fun e=>(h.zero e).1,fun e=>?_⟩
 by_cases hV:plen V=0
 ·exact .inr hV
 ·obtain⟨G,h1,_,_⟩:=h.whole hV
  refine .inl ?_
  rw[am_ h1,e];rfl
theorem isF.same_iff{U V u v X Y x y:List Rat}(h:isF U V u v)(k:isF X Y x y)(hV:plen V≠0)(hY:plen Y≠0):peq (pmul U Y) (pmul X V)↔(u=x∧v=y):=by
 constructor
 ·intro e
  have:=(h.cross hV hY e).same k
  exact⟨this.1.symm,this.2.symm⟩
 ·rintro ⟨rfl,rfl⟩
  obtain⟨G,g1,g2,_⟩:=h.whole hV
  obtain⟨K,k1,k2,_⟩:=k.whole hY
  refine aq_ fun z=>?_
  have e1:=ak_ z g1
  have e2:=ak_ z g2
  have e3:=ak_ z k1
  have e4:=ak_ z k2
  rw[af_] at e1 e2 e3 e4
  rw[af_,af_,e1,e2,e3,e4];grind
theorem q0_{h s:Nat}(hk:Fok h s):s+2≤900000000∧h≤50:=by
 have:=l1_ hk
 have:=hk.2.1
 omega
theorem s7_(a:OA_)(n c:Nat)(b:OA_)(m d:Nat)(U V:LR_)(N:Nat)(a':OA_)(n' c':Nat)(b':OA_)(m' d':Nat)(X Y:LR_)(K:Nat)(w:World)(hU:Pv w a n c U N)(hV:Pv w b m d V N)(hX:Pv w a' n' c' X K)(hY:Pv w b' m' d' Y K)(r:Bool)(HZA:∀w':World,Pv w' a n c U N→Pv w' b m d V N→Calls Tryz.prog 23 #[.agg #[.slice a n c,.slice b m d]] w' (bf_ (.bool true) w'))(HZB:∀w':World,Pv w' a' n' c' X K→Pv w' b' m' d' Y K→Calls Tryz.prog 23 #[.agg #[.slice a' n' c',.slice b' m' d']] w' (bf_ (.bool r) w')):Calls Tryz.prog 24 #[.agg #[.slice a n c,.slice b m d],.agg #[.slice a' n' c',.slice b' m' d']] w (bf_ (.bool r) w):=by
 have HB:=hd_ (ab_ (aa_ w (.cells #[.slice a n c,.slice b m d] 35)) (aa_ _ (.cells #[.slice a' n' c',.slice b' m' d'] 35)))
 have X0:Hid (((w.alloc (.cells #[.slice a n c,.slice b m d] 35)).alloc (.cells #[.slice a' n' c',.slice b' m' d'] 35)).heap[w.heap.size]? = some (.cells #[.slice a n c,.slice b m d] 35 (0,0))):=hd_ (ac_ (ai_ w _ _) (aa_ _ (.cells #[.slice a' n' c',.slice b' m' d'] 35)))
 have X1:Hid (((w.alloc (.cells #[.slice a n c,.slice b m d] 35)).alloc (.cells #[.slice a' n' c',.slice b' m' d'] 35)).heap[w.heap.size+1]? = some (.cells #[.slice a' n' c',.slice b' m' d'] 35 (0,0))):=hd_ (by have h9:=ai_ (w.alloc (.cells #[.slice a n c,.slice b m d] 35)) #[.slice a' n' c',.slice b' m' d'] 35;rwa [al_] at h9)
 have FU:=hd_ (hU.later HB.out)
 have FV:=hd_ (hV.later HB.out)
 have FX:=hd_ (hX.later HB.out)
 have FY:=hd_ (hY.later HB.out)
 clear hU hV hX hY
 obtain⟨x0,x1,x2,x3⟩:=bh_ X0.out X1.out
 go_enter Tryz.func24,Tryz.ntmps24
 go_wp2_with fail
 refine (HZA _ FU.out FV.out).mono ?_
 rintro e w1 ⟨rfl,bw⟩
 clear x0 x1 x2 x3
 replace HB:=bt_ HB bw
 replace X0:=bl_ X0 bw
 replace X1:=bl_ X1 bw
 replace FU:=FU.l_ bw
 replace FV:=FV.l_ bw
 replace FX:=FX.l_ bw
 replace FY:=FY.l_ bw
 clear bw
 obtain⟨x0,x1,x2,x3⟩:=bh_ X0.out X1.out
 go_wp2_with fail
 refine (HZA _ FU.out FV.out).mono ?_
 rintro e w2 ⟨rfl,bw⟩
 clear x0 x1 x2 x3
 replace HB:=bt_ HB bw
 replace X0:=bl_ X0 bw
 replace X1:=bl_ X1 bw
 replace FU:=FU.l_ bw
 replace FV:=FV.l_ bw
 replace FX:=FX.l_ bw
 replace FY:=FY.l_ bw
 clear bw
 obtain⟨x0,x1,x2,x3⟩:=bh_ X0.out X1.out
 go_wp2_with fail
 refine (HZB _ FX.out FY.out).mono ?_
 rintro e w3 ⟨rfl,bw⟩
 clear x0 x1 x2 x3
 replace HB:=bt_ HB bw
 replace X0:=bl_ X0 bw
 replace X1:=bl_ X1 bw
 replace FU:=FU.l_ bw
 replace FV:=FV.l_ bw
 replace FX:=FX.l_ bw
 replace FY:=FY.l_ bw
 clear bw
 obtain⟨x0,x1,x2,x3⟩:=bh_ X0.out X1.out
 go_wp2
 go_ret
 exact⟨rfl,HB.out⟩
theorem qe_(a:OA_)(n c:Nat)(b:OA_)(m d:Nat)(U V:LR_)(N:Nat)(a':OA_)(n' c':Nat)(b':OA_)(m' d':Nat)(X Y:LR_)(K:Nat)(w:World)(hU:Pv w a n c U N)(hV:Pv w b m d V N)(hX:Pv w a' n' c' X K)(hY:Pv w b' m' d' Y K)(HZA:∀w':World,Pv w' a n c U N→Pv w' b m d V N→Calls Tryz.prog 23 #[.agg #[.slice a n c,.slice b m d]] w' (bf_ (.bool false) w'))(HZB:∀w':World,Pv w' a' n' c' X K→Pv w' b' m' d' Y K→Calls Tryz.prog 23 #[.agg #[.slice a' n' c',.slice b' m' d']] w' (bf_ (.bool true) w')):Calls Tryz.prog 24 #[.agg #[.slice a n c,.slice b m d],.agg #[.slice a' n' c',.slice b' m' d']] w (bf_ (.bool false) w):=by
 have HB:=hd_ (ab_ (aa_ w (.cells #[.slice a n c,.slice b m d] 35)) (aa_ _ (.cells #[.slice a' n' c',.slice b' m' d'] 35)))
 have X0:Hid (((w.alloc (.cells #[.slice a n c,.slice b m d] 35)).alloc (.cells #[.slice a' n' c',.slice b' m' d'] 35)).heap[w.heap.size]? = some (.cells #[.slice a n c,.slice b m d] 35 (0,0))):=hd_ (ac_ (ai_ w _ _) (aa_ _ (.cells #[.slice a' n' c',.slice b' m' d'] 35)))
 have X1:Hid (((w.alloc (.cells #[.slice a n c,.slice b m d] 35)).alloc (.cells #[.slice a' n' c',.slice b' m' d'] 35)).heap[w.heap.size+1]? = some (.cells #[.slice a' n' c',.slice b' m' d'] 35 (0,0))):=hd_ (by have h9:=ai_ (w.alloc (.cells #[.slice a n c,.slice b m d] 35)) #[.slice a' n' c',.slice b' m' d'] 35;rwa [al_] at h9)
 have FU:=hd_ (hU.later HB.out)
 have FV:=hd_ (hV.later HB.out)
 have FX:=hd_ (hX.later HB.out)
 have FY:=hd_ (hY.later HB.out)
 clear hU hV hX hY
 obtain⟨x0,x1,x2,x3⟩:=bh_ X0.out X1.out
 go_enter Tryz.func24,Tryz.ntmps24
 go_wp2_with fail
 refine (HZA _ FU.out FV.out).mono ?_
 rintro e w1 ⟨rfl,bw⟩
 clear x0 x1 x2 x3
 replace HB:=bt_ HB bw
 replace X0:=bl_ X0 bw
 replace X1:=bl_ X1 bw
 replace FU:=FU.l_ bw
 replace FV:=FV.l_ bw
 replace FX:=FX.l_ bw
 replace FY:=FY.l_ bw
 clear bw
 obtain⟨x0,x1,x2,x3⟩:=bh_ X0.out X1.out
 go_wp2_with fail
 refine (HZB _ FX.out FY.out).mono ?_
 rintro e w2 ⟨rfl,bw⟩
 clear x0 x1 x2 x3
 replace HB:=bt_ HB bw
 replace X0:=bl_ X0 bw
 replace X1:=bl_ X1 bw
 replace FU:=FU.l_ bw
 replace FV:=FV.l_ bw
 replace FX:=FX.l_ bw
 replace FY:=FY.l_ bw
 clear bw
 obtain⟨x0,x1,x2,x3⟩:=bh_ X0.out X1.out
 go_wp2_with fail
 refine (HZA _ FU.out FV.out).mono ?_
 rintro e w3 ⟨rfl,bw⟩
 clear x0 x1 x2 x3
 replace HB:=bt_ HB bw
 replace X0:=bl_ X0 bw
 replace X1:=bl_ X1 bw
 replace FU:=FU.l_ bw
 replace FV:=FV.l_ bw
 replace FX:=FX.l_ bw
 replace FY:=FY.l_ bw
 clear bw
 obtain⟨x0,x1,x2,x3⟩:=bh_ X0.out X1.out
 go_wp2
 go_ret
 exact⟨rfl,HB.out⟩
theorem q5_(a:OA_)(n c:Nat)(b:OA_)(m d:Nat)(U V:LR_)(N:Nat)(a':OA_)(n' c':Nat)(b':OA_)(m' d':Nat)(X Y:LR_)(K:Nat)(w:World)(hU:Pv w a n c U N)(hV:Pv w b m d V N)(hX:Pv w a' n' c' X K)(hY:Pv w b' m' d' Y K)(P Q:LR_)(r:Bool)(HZA:∀w':World,Pv w' a n c U N→Pv w' b m d V N→Calls Tryz.prog 23 #[.agg #[.slice a n c,.slice b m d]] w' (bf_ (.bool false) w'))(HZB:∀w':World,Pv w' a' n' c' X K→Pv w' b' m' d' Y K→Calls Tryz.prog 23 #[.agg #[.slice a' n' c',.slice b' m' d']] w' (bf_ (.bool false) w'))
 (HM1:∀w':World,Pv w' a n c U N→Pv w' b' m' d' Y K→Calls Tryz.prog 75 #[.slice a n c,.slice b' m' d'] w' (b5_ P w')) (HM2:∀w':World,Pv w' a' n' c' X K→Pv w' b m d V N→Calls Tryz.prog 75 #[.slice a' n' c',.slice b m d] w' (b5_ Q w'))
 (HSA:∀(w':World) (a3:OA_) (n3 c3:Nat) (a4:OA_) (n4 c4:Nat),Rw w' a3 n3 c3 P→Rw w' a4 n4 c4 Q→Calls Tryz.prog 74 #[.slice a3 n3 c3,.slice a4 n4 c4] w' (bf_ (.bool r) w')):Calls Tryz.prog 24 #[.agg #[.slice a n c,.slice b m d],.agg #[.slice a' n' c',.slice b' m' d']] w (bf_ (.bool r) w):=by
 have HB:=hd_ (ab_ (aa_ w (.cells #[.slice a n c,.slice b m d] 35)) (aa_ _ (.cells #[.slice a' n' c',.slice b' m' d'] 35)))
 have X0:Hid (((w.alloc (.cells #[.slice a n c,.slice b m d] 35)).alloc (.cells #[.slice a' n' c',.slice b' m' d'] 35)).heap[w.heap.size]? = some (.cells #[.slice a n c,.slice b m d] 35 (0,0))):=hd_ (ac_ (ai_ w _ _) (aa_ _ (.cells #[.slice a' n' c',.slice b' m' d'] 35)))
 have X1:Hid (((w.alloc (.cells #[.slice a n c,.slice b m d] 35)).alloc (.cells #[.slice a' n' c',.slice b' m' d'] 35)).heap[w.heap.size+1]? = some (.cells #[.slice a' n' c',.slice b' m' d'] 35 (0,0))):=hd_ (by have h9:=ai_ (w.alloc (.cells #[.slice a n c,.slice b m d] 35)) #[.slice a' n' c',.slice b' m' d'] 35;rwa [al_] at h9)
 have FU:=hd_ (hU.later HB.out)
 have FV:=hd_ (hV.later HB.out)
 have FX:=hd_ (hX.later HB.out)
 have FY:=hd_ (hY.later HB.out)
 clear hU hV hX hY
 obtain⟨x0,x1,x2,x3⟩:=bh_ X0.out X1.out
 go_enter Tryz.func24,Tryz.ntmps24
 go_wp2_with fail
 refine (HZA _ FU.out FV.out).mono ?_
 rintro e w1 ⟨rfl,bw⟩
 clear x0 x1 x2 x3
 replace HB:=bt_ HB bw
 replace X0:=bl_ X0 bw
 replace X1:=bl_ X1 bw
 replace FU:=FU.l_ bw
 replace FV:=FV.l_ bw
 replace FX:=FX.l_ bw
 replace FY:=FY.l_ bw
 clear bw
 obtain⟨x0,x1,x2,x3⟩:=bh_ X0.out X1.out
 go_wp2_with fail
 refine (HZB _ FX.out FY.out).mono ?_
 rintro e w2 ⟨rfl,bw⟩
 clear x0 x1 x2 x3
 replace HB:=bt_ HB bw
 replace X0:=bl_ X0 bw
 replace X1:=bl_ X1 bw
 replace FU:=FU.l_ bw
 replace FV:=FV.l_ bw
 replace FX:=FX.l_ bw
 replace FY:=FY.l_ bw
 clear bw
 obtain⟨x0,x1,x2,x3⟩:=bh_ X0.out X1.out
 go_wp2
 clear x0 x1 x2 x3
 replace HB:=bt_ HB (dw_ w2)
 replace X0:Hid (w2.drew.heap[w.heap.size]? = _):=hd_ X0.out
 replace X1:Hid (w2.drew.heap[w.heap.size+1]? = _):=hd_ X1.out
 replace FU:=FU.l_ (dw_ w2)
 replace FV:=FV.l_ (dw_ w2)
 replace FX:=FX.l_ (dw_ w2)
 replace FY:=FY.l_ (dw_ w2)
 have pSn:=bh_ X0.out X1.out
 go_region_held3 (fun w'=>w'.cell? ⟨w.heap.size,0,none⟩=some (.slice a n c)∧w'.cell? ⟨w.heap.size,1,none⟩=some (.slice b m d)∧w'.cell? ⟨w.heap.size+1,0,none⟩=some (.slice a' n' c')∧w'.cell? ⟨w.heap.size+1,1,none⟩=some (.slice b' m' d')) (exact pSn)
  (first
  | (go_at_call 75;(first
    | (have pm1:=pM1;refine (HM2 _ FX.out FV.out).mono ?_;rintro e wp2 ⟨a22,n22,c22,rfl,h22,b⟩;replace HB:=bt_ HB b;replace X0:=bl_ X0 b;replace X1:=bl_ X1 b;replace FU:=FU.l_ b;replace FV:=FV.l_ b;replace FX:=FX.l_ b;replace FY:=FY.l_ b;replace P3:=P3.l_ b;have P4:=hd_ h22;clear h22;clear b;clear pSn;have pSn:=bh_ X0.out X1.out;clear pM1 pm1;have pM2:=True.intro)
    | (refine (HM1 _ FU.out FY.out).mono ?_;rintro e wp1 ⟨a21,n21,c21,rfl,h21,b⟩;replace HB:=bt_ HB b;replace X0:=bl_ X0 b;replace X1:=bl_ X1 b;replace FU:=FU.l_ b;replace FV:=FV.l_ b;replace FX:=FX.l_ b;replace FY:=FY.l_ b;have P3:=hd_ h21;clear h21;clear b;clear pSn;have pSn:=bh_ X0.out X1.out;have pM1:=True.intro)))
  | (go_at_call 74;(first
    | (have pm2:=pM2;refine (HSA _ _ _ _ _ _ _ P3.out P4.out).mono ?_;rintro e wp3 ⟨rfl,b⟩;replace HB:=bt_ HB b;replace X0:=bl_ X0 b;replace X1:=bl_ X1 b;replace FU:=FU.l_ b;replace FV:=FV.l_ b;replace FX:=FX.l_ b;replace FY:=FY.l_ b;replace P3:=P3.l_ b;clear P4;clear b;clear pSn;have pSn:=bh_ X0.out X1.out;clear pM2 pm2;have pM3:=True.intro))))
 go_wp2
 go_ret
 exact⟨rfl,HB.out⟩
theorem ratf_same(S:PolySaid)(a:OA_)(n c:Nat)(b:OA_)(m d:Nat)(u v:LR_)(h s:Nat)(a':OA_)(n' c':Nat)(b':OA_)(m' d':Nat)(x y:LR_)(k t:Nat)(w:World)(hA:Fv w a n c b m d u v h s)(hB:Fv w a' n' c' b' m' d' x y k t)(hk:Fok h s)(hk2:Fok k t)(hb:(h+k+1) * (s+t+20)≤1900000000):Calls Tryz.prog 24 #[.agg #[.slice a n c,.slice b m d],.agg #[.slice a' n' c',.slice b' m' d']] w (bf_ (.bool (decide (u=x∧v=y))) w):=by
 obtain⟨U,V,hU,hV,hf,hz,_⟩:=hA
 obtain⟨X,Y,hX,hY,hg,hy,_⟩:=hB
 obtain⟨s1,s2⟩:=q0_ hk
 obtain⟨t1,t2⟩:=q0_ hk2
 have lU:=hz.lu
 have lV:=hz.lv
 have lX:=hy.lu
 have lY:=hy.lv
 rw[hU.len] at lU
 rw[hV.len] at lV
 rw[hX.len] at lX
 rw[hY.len] at lY
 have HZA:=fun (w':World) (g1:Pv w' a n c U (s+2)) (g2:Pv w' b m d V (s+2))=>m0_ S a n c b m d U V (s+2) w' g1 g2 (by omega) (by omega) (by omega)
 have HZB:=fun (w':World) (g1:Pv w' a' n' c' X (t+2)) (g2:Pv w' b' m' d' Y (t+2))=>m0_ S a' n' c' b' m' d' X Y (t+2) w' g1 g2 (by omega) (by omega) (by omega)
 by_cases h1:plen U=0∨plen V=0
 ·have hu:=(hf.zero h1).1
  have hv:=(hf.zero h1).2
  have hr:decide (u=x∧v=y)=decide (plen X=0∨plen Y=0):=decide_eq_decide.2 ⟨fun e=>hg.none_iff.2 (by rw[←e.1,hu]),fun e=>by have:=hg.zero e;exact⟨by rw[hu,this.1],by rw[hv,this.2]⟩⟩
  rw[hr]
  exact s7_ a n c b m d U V (s+2) a' n' c' b' m' d' X Y (t+2) w hU hV hX hY _ (by rw[decide_eq_true h1] at HZA;exact HZA) HZB
 ·by_cases h2:plen X=0∨plen Y=0
  ·have hx:=(hg.zero h2).1
   rw[decide_eq_false (fun e=>h1 (hf.none_iff.2 (by rw[e.1,hx])):¬(u=x∧v=y))]
   exact qe_ a n c b m d U V (s+2) a' n' c' b' m' d' X Y (t+2) w hU hV hX hY (by rw[decide_eq_false h1] at HZA;exact HZA) (by rw[decide_eq_true h2] at HZB;exact HZB)
  ·have h3:plen V≠0:=fun e=>h1 (.inr e)
   have h4:plen Y≠0:=fun e=>h2 (.inr e)
   have hr:decide (u=x∧v=y)=decide (ah_ (ah_ (pmul U Y))=ah_ (ah_ (pmul X V))):=decide_eq_decide.2 ⟨fun e=>by rw[a7_,a7_];exact br_ ((hf.same_iff hg h3 h4).2 e),fun e=>(hf.same_iff hg h3 h4).1 (by rw[a7_,a7_] at e;exact pnorm_iff.1 e)⟩
   rw[hr]
   have hn1:(n+1) * (s+2+(t+2)+8)≤1900000000:=Nat.le_trans (Nat.mul_le_mul (by omega) (by omega)) hb
   have hn2:(n'+1) * (t+2+(s+2)+8)≤1900000000:=Nat.le_trans (Nat.mul_le_mul (by omega) (by omega)) hb
   have q1:∀z∈ah_ (pmul U Y),qlen z≤1900000000:=fun z hz9=>by
    have e1:=gw_ (A:=s+2) (B:=t+2) (by omega) (by omega) hz.qlen hy.swap.qlen z hz9
    have e2:U.length * (s+2+(t+2)+3)≤n * (s+2+(t+2)+8):=Nat.mul_le_mul (by rw[hU.len];exact Nat.le_refl _) (by omega)
    rw[Nat.add_mul,Nat.one_mul] at hn1
    omega
   have q2:∀z∈ah_ (pmul X V),qlen z≤1900000000:=fun z hz9=>by
    have e1:=gw_ (A:=t+2) (B:=s+2) (by omega) (by omega) hy.qlen hz.swap.qlen z hz9
    have e2:X.length * (t+2+(s+2)+3)≤n' * (t+2+(s+2)+8):=Nat.mul_le_mul (by rw[hX.len];exact Nat.le_refl _) (by omega)
    rw[Nat.add_mul,Nat.one_mul] at hn2
    omega
   have l1:(ah_ (pmul U Y)).length≤300:=by
    have:=az_ (pmul U Y);have:=b7_ U Y;have:=hU.len;have:=hY.len;omega
   have l2:(ah_ (pmul X V)).length≤300:=by
    have:=az_ (pmul X V);have:=b7_ X V;have:=hX.len;have:=hV.len;omega
   exact q5_ a n c b m d U V (s+2) a' n' c' b' m' d' X Y (t+2) w hU hV hX hY (ah_ (pmul U Y)) (ah_ (pmul X V)) _ (by rw[decide_eq_false h1] at HZA;exact HZA) (by rw[decide_eq_false h2] at HZB;exact HZB) (fun w' g1 g2=>q2_ S g1 g2 (by omega) (by omega) hn1) (fun w' g1 g2=>q2_ S g1 g2 (by omega) (by omega) hn2) (fun w' a3 n3 c3 a4 n4 c4 g1 g2=>same_pv S (Pv.right g1 q1) (Pv.right g2 q2) (by rw[←g1.len];exact l1) (by rw[←g2.len];exact l2) (Nat.le_refl _) (Nat.le_refl _))
theorem Rf.turn{u v:List Rat}{c:Rat}(h:Rf u v)(hu:u≠[])(hc:c=1 / co u (plen u - 1)):Rf (ag_ c v) (ag_ c u)∧c≠0:=by
 have hu0:plen u≠0:=fun e=>hu (by rw[a0_ h.ur] at e;exact List.eq_nil_of_length_eq_zero e)
 have ht:=dl_ (a:=u) (n:=plen u - 1) (by omega)
 have hcu:c * co u (plen u - 1)=1:=by rw[hc];exact Rat.div_mul_cancel ht
 have hc0:c≠0:=fun e=>by rw[e,Rat.zero_mul] at hcu;exact absurd hcu (by decide)
 have hn:∀p:LR_,ah_ p=p→ah_ (ag_ c p)=ag_ c p:=fun p hp=>by
  have h1:plen (ag_ c p)=(ag_ c p).length:=by rw[bm_ hc0,a0_ hp,a9_]
  rw[dd_]
  exact List.take_of_length_le (by rw[show (ah_ (ag_ c p)).length=plen (ag_ c p) from rfl,h1];exact Nat.le_refl _)
 obtain⟨s,t,hst⟩:=h.coprime
 refine ⟨⟨hn v h.vr,hn u h.ur,by rw[bm_ hc0];exact hu0,by rw[bm_ hc0,aj_];exact hcu,Cpr.sum ⟨ag_ (1 / c) t,ag_ (1 / c) s,fun x=>?_⟩⟩,hc0⟩
 have e4:1 / c * c=1:=Rat.div_mul_cancel hc0
 have e6:=hst x
 rw[ap_,ap_,ap_,ap_]
 generalize 1 / c=d at *
 have e5:d * ar_ x t * (c * ar_ x v)+d * ar_ x s * (c * ar_ x u)=d * c * (ar_ x s * ar_ x u+ar_ x t * ar_ x v):=by grind
 rw[e5,e4,e6,Rat.one_mul]
theorem isF.turn{U V u v:List Rat}{c:Rat}(h:isF U V u v)(hu:u≠[])(hc:c=1 / co u (plen u - 1)):isF V U (ag_ c v) (ag_ c u):=by
 obtain⟨h1,h2⟩:=h.1.turn hu hc
 have hn:¬(plen U=0∨plen V=0):=fun e=>hu (h.none_iff.1 e)
 refine ⟨h1,fun e=>absurd (.inl e) hn,fun _=>aq_ fun x=>?_⟩
 have e1:=ak_ x (h.2.2 (fun e=>hn (.inr e)))
 rw[af_,af_] at e1
 rw[af_,af_,ap_,ap_];grind
theorem Fz.turn{u v:List Rat}{h s:Nat}{c:Rat}(f:Fz u v h s)(hr:Rf u v)(hu:u≠[])(hc:c=1 / co u (plen u - 1)):Fz (ag_ c v) (ag_ c u) h s:=by
 obtain⟨a,b,d,d1,d2,d3,d4⟩:=f
 have hu0:plen u≠0:=fun e=>hu (by rw[a0_ hr.ur] at e;exact List.eq_nil_of_length_eq_zero e)
 have ht:=dl_ (a:=u) (n:=plen u - 1) (by omega)
 have hcu:c * co u (plen u - 1)=1:=by rw[hc];exact Rat.div_mul_cancel ht
 obtain⟨z,z1,z2⟩:=d3 (plen u - 1)
 rw[aj_] at z1
 have hd0:=nat_nz d1
 have hz0:z≠0:=fun e=>by
  rw[e] at z1
  rcases Rat.mul_eq_zero.1 z1 with g | g
  ·exact hd0 g
  ·exact ht g
 have hzc:(z:Rat) * c=((d:Nat):Rat):=by
  rw[←z1,Rat.mul_assoc,Rat.mul_comm (co u (plen u - 1)) c,hcu,Rat.mul_one]
 have hv:∀p:LR_,Ints (ag_ ((d:Nat):Rat) p) (pw s)→Ints (ag_ (z:Rat) (ag_ c p)) (pw s):=fun p hp=>hp.congr (fun i=>by rw[aj_,aj_,aj_,←hzc,Rat.mul_assoc])
 exact⟨by rw[a9_];exact b,by rw[a9_];exact a,z.natAbs,by omega,z2,(hv v d4).abs,(hv u d3).abs⟩
theorem Fv.turn{w:World}{a:Option Addr}{n c:Nat}{b:Option Addr}{m d:Nat}{u v:List Rat}{h s:Nat}{k:Rat}(f:Fv w a n c b m d u v h s)(hu:u≠[])(hc:k=1 / co u (plen u - 1)):Fv w b m d a n c (ag_ k v) (ag_ k u) h s:=by
 obtain⟨U,V,h1,h2,hf,hz,hz2⟩:=f
 exact⟨V,U,h2,h1,hf.turn hu hc,hz.swap,hz2.turn hf.1 hu hc⟩
theorem quo_form{u v x y A D:List Rat}{c:Rat}(h:isF (pmul u (ag_ c y)) (pmul v (ag_ c x)) A D)(hc:c≠0)(hv:plen v≠0)(hx:plen x≠0):isF (pmul u y) (pmul v x) A D:=by
 have hx2:plen (ag_ c x)≠0:=by rw[bm_ hc];exact hx
 refine h.cross (h6_ hv hx2) (h6_ hv hx) (aq_ fun z=>?_)
 rw[af_,af_,af_,af_,af_,af_,ap_,ap_];grind
theorem sm_(S:PolySaid)(a:OA_)(n c:Nat)(b:OA_)(m d:Nat)(u v:LR_)(h s:Nat)(w:World)(hA:Fv w a n c b m d u v h s)(hs:s+2≤1900000000)(hh:h≤50):Calls Tryz.prog 23 #[.agg #[.slice a n c,.slice b m d]] w (bf_ (.bool (decide (u=[]))) w):=by
 obtain⟨U,V,hU,hV,hf,hz,_⟩:=hA
 have h9:=m0_ S a n c b m d U V (s+2) w hU hV (by rw[←hU.len];have:=hz.lu;omega) (by rw[←hV.len];have:=hz.lv;omega) hs
 rwa [show decide (plen U=0∨plen V=0)=decide (u=[]) from decide_eq_decide.2 hf.none_iff] at h9
theorem sr_(S:PolySaid)(FS:FracSaid)(a:OA_)(n c:Nat)(b:OA_)(m d:Nat)(h s:Nat)(a':OA_)(n' c':Nat)(b':OA_)(m' d':Nat)(x y:LR_)(k t:Nat)(w:World)(hB:Fv w a' n' c' b' m' d' x y k t)(hk:Fok2 h s k t)(hx0:x=[]):Calls Tryz.prog 29 #[.agg #[.slice a n c,.slice b m d],.agg #[.slice a' n' c',.slice b' m' d']] w (LstEV [] [1] (.bool false) w):=by
 obtain⟨s1,s2⟩:=q0_ hk.1
 have HZE:∀w':World,Fv w' a' n' c' b' m' d' x y k t→Calls Tryz.prog 23 #[.agg #[.slice a' n' c',.slice b' m' d']] w' (bf_ (.bool true) w'):=fun w' g=>by
  have h9:=sm_ S a' n' c' b' m' d' x y k t w' g (by omega) (by omega)
  rwa [decide_eq_true hx0] at h9
 obtain⟨z0,hz0⟩:∃q:Rat,((0:Int):Rat)=q:=⟨_,rfl⟩
 have hz00:z0=0:=by rw[←hz0];rfl
 have lz:qlen z0≤2:=by rw[←hz0];exact b4_ (by decide)
 have HO0:∀w':World,Calls Tryz.prog 47 #[.int .i64 0] w' (LstQ z0 w'):=fun w'=>hz0▸FS.of 0 w' (by decide)
 have HOF:∀(w':World) (a2:OA_) (n2 c2:Nat) (b2:OA_) (m2 d2:Nat),Wd w' a2 n2 c2 (dg z0.num.natAbs)→Wd w' b2 m2 d2 (dg z0.den)→Calls Tryz.prog 28 #[.agg #[.bool (zneg z0.num),.slice a2 n2 c2,.slice b2 m2 d2]] w' (LstE [] [1] w'):=fun w' a2 n2 c2 b2 m2 d2 g1 g2=>by
  have h9:=r3_ S FS _ z0 2 w' (Fr.right g1 g2 (by have:=g1.len;have:=a5_ z0;omega) (by have:=g2.len;have:=a4_ z0;omega)) (by decide) (Nat.le_refl 2)
  rwa [show ah_ [z0,0]=[] by rw[hz00];decide +kernel] at h9
 clear hz0 hz00 lz
 have HB:=hd_ (ab_ (ab_ (aa_ w (.cells #[.slice a n c,.slice b m d] 35)) (aa_ _ (.cells #[.slice a' n' c',.slice b' m' d'] 35))) (aa_ _ (.cells #[.slice none 0 0,.slice none 0 0] 35)))
 have X0:Hid ((((w.alloc (.cells #[.slice a n c,.slice b m d] 35)).alloc (.cells #[.slice a' n' c',.slice b' m' d'] 35)).alloc (.cells #[.slice none 0 0,.slice none 0 0] 35)).heap[w.heap.size]? = some (.cells #[.slice a n c,.slice b m d] 35 (0,0))):=hd_ (ac_ (ac_ (ai_ w _ _) (aa_ _ (.cells #[.slice a' n' c',.slice b' m' d'] 35))) (aa_ _ (.cells #[.slice none 0 0,.slice none 0 0] 35)))
 have X1:Hid ((((w.alloc (.cells #[.slice a n c,.slice b m d] 35)).alloc (.cells #[.slice a' n' c',.slice b' m' d'] 35)).alloc (.cells #[.slice none 0 0,.slice none 0 0] 35)).heap[w.heap.size+1]? = some (.cells #[.slice a' n' c',.slice b' m' d'] 35 (0,0))):=hd_ (ac_ (by have h9:=ai_ (w.alloc (.cells #[.slice a n c,.slice b m d] 35)) #[.slice a' n' c',.slice b' m' d'] 35;rwa [al_] at h9) (aa_ _ (.cells #[.slice none 0 0,.slice none 0 0] 35)))
 have R0:Hid ((((w.alloc (.cells #[.slice a n c,.slice b m d] 35)).alloc (.cells #[.slice a' n' c',.slice b' m' d'] 35)).alloc (.cells #[.slice none 0 0,.slice none 0 0] 35)).heap[w.heap.size+1+1]? = some (.cells #[.slice none 0 0,.slice none 0 0] 35 (0,0))):=hd_ (by have h9:=ai_ ((w.alloc (.cells #[.slice a n c,.slice b m d] 35)).alloc (.cells #[.slice a' n' c',.slice b' m' d'] 35)) #[.slice none 0 0,.slice none 0 0] 35;rwa [al_,al_] at h9)
 have FB:=hd_ (hB.later HB.out)
 have x0:=ad_ X1.out 0
 have x1:=ad_ X1.out 1
 simp only[List.getElem?_toArray,List.getElem?_cons_zero,List.getElem?_cons_succ] at x0 x1
 clear hB hk s1 s2 hx0
 go_enter Tryz.func29,Tryz.ntmps29
 go_wp2_with fail
 refine (HZE _ FB.out).mono ?_
 rintro e w1 ⟨rfl,b⟩
 clear x0 x1 HZE FB X0 X1
 replace HB:=bt_ HB b
 replace R0:=bl_ R0 b
 clear b
 go_wp2_with fail
 refine (HO0 _).mono ?_
 rintro e w2 ⟨a5,n5,c5,b5,m5,d5,rfl,h5,g5,b⟩
 replace HB:=bt_ HB b
 replace R0:=bl_ R0 b
 have Z1:=hd_ h5
 have Z2:=hd_ g5
 clear h5 g5 b HO0
 unfold frV
 go_wp2_with fail
 refine (HOF _ _ _ _ _ _ _ Z1.out Z2.out).mono ?_
 rintro e w3 ⟨a6,n6,c6,b6,m6,d6,rfl,h6,g6,b⟩
 replace HB:=bt_ HB b
 replace R0:=bl_ R0 b
 have P9:=hd_ h6
 have Q9:=hd_ g6
 clear h6 g6 b HOF Z1 Z2
 obtain⟨r0,r1⟩:=bd_ R0.out
 have e0:=ae_ R0.out 0
 have e1:=ae_ R0.out 1
 have R9:=hd_ (bj_ R0.out (.slice a6 n6 c6) (.slice b6 m6 d6))
 replace P9:=hd_ (P9.out.boxed R0.out (.slice a6 n6 c6) (.slice b6 m6 d6))
 replace Q9:=hd_ (Q9.out.boxed R0.out (.slice a6 n6 c6) (.slice b6 m6 d6))
 have G9:=hd_ (ay_ HB.out (show w.heap.size≤w.heap.size+1+1 by omega) (.slice a6 n6 c6) (.slice b6 m6 d6))
 go_wp2
 refine bodyPost_ret (bo_ Tryz.results29 _ _ (w.heap.size+1+1) 35 #[.slice a6 n6 c6,.slice b6 m6 d6] (0,0) _ rfl R9.out Tryz.underlying35 rfl (by kernel_rfl)) rfl ?_
 exact⟨a6,n6,c6,b6,m6,d6,rfl,P9.out,Q9.out,G9.out⟩
theorem rj_(S:PolySaid)(FS:FracSaid)(a:OA_)(n c:Nat)(b:OA_)(m d:Nat)(u v:LR_)(h s:Nat)(a':OA_)(n' c':Nat)(b':OA_)(m' d':Nat)(x y:LR_)(k t:Nat)(w:World)(hA:Fv w a n c b m d u v h s)(hB:Fv w a' n' c' b' m' d' x y k t)(hk:Fok2 h s k t)(hx0:x≠[]):Calls Tryz.prog 29 #[.agg #[.slice a n c,.slice b m d],.agg #[.slice a' n' c',.slice b' m' d']] w (LstFV (pmul u y) (pmul v x) (.bool true) w):=by
 obtain⟨s1,s2⟩:=q0_ hk.1
 have hxr:=hB.rf
 have hv0:=hA.rf.v0
 have hxp:plen x≠0:=fun e=>hx0 (by rw[a0_ hxr.ur] at e;exact List.eq_nil_of_length_eq_zero e)
 have HZE:∀w':World,Fv w' a' n' c' b' m' d' x y k t→Calls Tryz.prog 23 #[.agg #[.slice a' n' c',.slice b' m' d']] w' (bf_ (.bool false) w'):=fun w' g=>by
  have h9:=sm_ S a' n' c' b' m' d' x y k t w' g (by omega) (by omega)
  rwa [decide_eq_false hx0] at h9
 have HMU:∀w':World,Fv w' a n c b m d u v h s→Fv w' a' n' c' b' m' d' x y k t→Calls Tryz.prog 38 #[.agg #[.slice a n c,.slice b m d],.agg #[.slice b' m' d',.slice a' n' c']] w' (LstF (pmul u y) (pmul v x) w'):=fun w' g1 g2=>(ratf_mul S FS a n c b m d u v h s b' m' d' a' n' c' _ _ k t w' g1 (g2.turn hx0 rfl) hk).mono fun e w2 h9=>by
  obtain⟨a4,n4,c4,x4,b4,m4,d4,y4,k1,k2,k3,k4,k5⟩:=h9
  exact⟨a4,n4,c4,x4,b4,m4,d4,y4,k1,k2,k3,quo_form k4 (hxr.turn hx0 rfl).2 hv0 hxp,k5⟩
 have HB:=hd_ (ab_ (ab_ (aa_ w (.cells #[.slice a n c,.slice b m d] 35)) (aa_ _ (.cells #[.slice a' n' c',.slice b' m' d'] 35))) (aa_ _ (.cells #[.slice none 0 0,.slice none 0 0] 35)))
 have X0:Hid ((((w.alloc (.cells #[.slice a n c,.slice b m d] 35)).alloc (.cells #[.slice a' n' c',.slice b' m' d'] 35)).alloc (.cells #[.slice none 0 0,.slice none 0 0] 35)).heap[w.heap.size]? = some (.cells #[.slice a n c,.slice b m d] 35 (0,0))):=hd_ (ac_ (ac_ (ai_ w _ _) (aa_ _ (.cells #[.slice a' n' c',.slice b' m' d'] 35))) (aa_ _ (.cells #[.slice none 0 0,.slice none 0 0] 35)))
 have X1:Hid ((((w.alloc (.cells #[.slice a n c,.slice b m d] 35)).alloc (.cells #[.slice a' n' c',.slice b' m' d'] 35)).alloc (.cells #[.slice none 0 0,.slice none 0 0] 35)).heap[w.heap.size+1]? = some (.cells #[.slice a' n' c',.slice b' m' d'] 35 (0,0))):=hd_ (ac_ (by have h9:=ai_ (w.alloc (.cells #[.slice a n c,.slice b m d] 35)) #[.slice a' n' c',.slice b' m' d'] 35;rwa [al_] at h9) (aa_ _ (.cells #[.slice none 0 0,.slice none 0 0] 35)))
 have R0:Hid ((((w.alloc (.cells #[.slice a n c,.slice b m d] 35)).alloc (.cells #[.slice a' n' c',.slice b' m' d'] 35)).alloc (.cells #[.slice none 0 0,.slice none 0 0] 35)).heap[w.heap.size+1+1]? = some (.cells #[.slice none 0 0,.slice none 0 0] 35 (0,0))):=hd_ (by have h9:=ai_ ((w.alloc (.cells #[.slice a n c,.slice b m d] 35)).alloc (.cells #[.slice a' n' c',.slice b' m' d'] 35)) #[.slice none 0 0,.slice none 0 0] 35;rwa [al_,al_] at h9)
 have FA:=hd_ (hA.later HB.out)
 have FB:=hd_ (hB.later HB.out)
 obtain⟨x0,x1,x2,x3⟩:=bh_ X0.out X1.out
 generalize pmul u y=pu at *
 generalize pmul v x=pv at *
 clear hA hB hk s1 s2 hx0 hxr hv0 hxp
 go_enter Tryz.func29,Tryz.ntmps29
 go_wp2_with fail
 refine (HZE _ FB.out).mono ?_
 rintro e w1 ⟨rfl,b⟩
 clear x0 x1 x2 x3 HZE
 replace HB:=bt_ HB b
 replace R0:=bl_ R0 b
 replace X0:=bl_ X0 b
 replace X1:=bl_ X1 b
 replace FA:=FA.l_ b
 replace FB:=FB.l_ b
 clear b
 obtain⟨x0,x1,x2,x3⟩:=bh_ X0.out X1.out
 go_wp2_with fail
 refine (HMU _ FA.out FB.out).mono ?_
 rintro e w2 ⟨a2,n2,c2,qu,b2,m2,d2,qv,rfl,h2,g2,k2,b⟩
 clear x0 x1 x2 x3 HMU FA FB X0 X1
 replace HB:=bt_ HB b
 replace R0:=bl_ R0 b
 have P9:=hd_ h2
 have Q9:=hd_ g2
 have KF:=hd_ k2
 clear h2 g2 k2 b
 obtain⟨r0,r1⟩:=bd_ R0.out
 have e0:=ae_ R0.out 0
 have e1:=ae_ R0.out 1
 have R9:=hd_ (bj_ R0.out (.slice a2 n2 c2) (.slice b2 m2 d2))
 replace P9:=hd_ (P9.out.boxed R0.out (.slice a2 n2 c2) (.slice b2 m2 d2))
 replace Q9:=hd_ (Q9.out.boxed R0.out (.slice a2 n2 c2) (.slice b2 m2 d2))
 have G9:=hd_ (ay_ HB.out (show w.heap.size≤w.heap.size+1+1 by omega) (.slice a2 n2 c2) (.slice b2 m2 d2))
 go_wp2
 refine bodyPost_ret (bo_ Tryz.results29 _ _ (w.heap.size+1+1) 35 #[.slice a2 n2 c2,.slice b2 m2 d2] (0,0) _ rfl R9.out Tryz.underlying35 rfl (by kernel_rfl)) rfl ?_
 exact⟨a2,n2,c2,qu,b2,m2,d2,qv,rfl,P9.out,Q9.out,KF.out,G9.out⟩
theorem pf_(S:PolySaid)(FS:FracSaid)(a:OA_)(n c:Nat)(b:OA_)(m d:Nat)(u v U V:LR_)(h s:Nat)(v9:Value)(x:Rat)(X:Nat)(w:World)(hU:Pv w a n c U (s+2))(hV:Pv w b m d V (s+2))(hf:isF U V u v)(hz:Fz U V h s)(hz2:Fz u v h s)(h9:Fr w v9 x X)(hk:Fok h s)(hb:(h+1) * ((h+1) * (X+8)+(s+3)+8)≤1900000000)(h0:ar_ x V≠0):Calls Tryz.prog 16 #[.agg #[.slice a n c,.slice b m d],v9] w (en_ (ar_ x u / ar_ x v) (.bool true) w):=by
 obtain⟨s1,s2⟩:=q0_ hk
 have hb9:∀n:Nat,n≤h→(n+1) * ((n+1) * (X+8)+(s+2)+8)≤1900000000:=fun n hn=>Nat.le_trans (Nat.mul_le_mul (by omega) (by have:(n+1) * (X+8)≤(h+1) * (X+8):=Nat.mul_le_mul_right _ (by omega);omega)) hb
 have lU:=hz.lu
 have lV:=hz.lv
 rw[hU.len] at lU
 rw[hV.len] at lV
 have lu:=hz2.lu
 have lv:=hz2.lv
 obtain⟨s9,a9,n9,c9,l9,b9,m9,d9,k9,rfl,h91,h92,h93,h94,h95⟩:=h9
 have HX9:=hd_ h95
 have HQ1:∀w':World,Pv w' a n c U (s+2)→Pv w' b m d V (s+2)→Wd w' a9 n9 c9 l9→Wd w' b9 m9 d9 k9→Calls Tryz.prog 68 #[.agg #[.slice a n c,.slice b m d],.agg #[.bool s9,.slice a9 n9 c9,.slice b9 m9 d9]] w' (en_ (ar_ x U / ar_ x V) (.bool (decide (ar_ x V≠0))) w'):=fun w' g1 g2 g3 g4=>g8_ S FS a n c b m d U V _ x (s+2) X w' g1 g2 (Fr.of g3 g4 h93 h94 HX9.out) (by omega) (by omega) (hb9 n lU) (hb9 m lV)
 rw[decide_eq_true h0] at HQ1
 have hval:=(hf.val h0).2
 obtain⟨r,hr⟩:∃r,ar_ x U / ar_ x V=r:=⟨_,rfl⟩
 rw[hval]
 rw[hr] at HQ1 ⊢
 have HB:=hd_ (ab_ (ab_ (aa_ w (.cells #[.slice a n c,.slice b m d] 35)) (aa_ _ (.cells #[.bool s9,.slice a9 n9 c9,.slice b9 m9 d9] 44))) (aa_ _ (.cells #[.bool false,.slice none 0 0,.slice none 0 0] 44)))
 have X0:Hid ((((w.alloc (.cells #[.slice a n c,.slice b m d] 35)).alloc (.cells #[.bool s9,.slice a9 n9 c9,.slice b9 m9 d9] 44)).alloc (.cells #[.bool false,.slice none 0 0,.slice none 0 0] 44)).heap[w.heap.size]? = some (.cells #[.slice a n c,.slice b m d] 35 (0,0))):=hd_ (ac_ (ac_ (ai_ w _ _) (aa_ _ (.cells #[.bool s9,.slice a9 n9 c9,.slice b9 m9 d9] 44))) (aa_ _ (.cells #[.bool false,.slice none 0 0,.slice none 0 0] 44)))
 have X1:Hid ((((w.alloc (.cells #[.slice a n c,.slice b m d] 35)).alloc (.cells #[.bool s9,.slice a9 n9 c9,.slice b9 m9 d9] 44)).alloc (.cells #[.bool false,.slice none 0 0,.slice none 0 0] 44)).heap[w.heap.size+1]? = some (.cells #[.bool s9,.slice a9 n9 c9,.slice b9 m9 d9] 44 (0,0))):=hd_ (ac_ (by have h9:=ai_ (w.alloc (.cells #[.slice a n c,.slice b m d] 35)) #[.bool s9,.slice a9 n9 c9,.slice b9 m9 d9] 44;rwa [al_] at h9) (aa_ _ (.cells #[.bool false,.slice none 0 0,.slice none 0 0] 44)))
 have R0:Hid ((((w.alloc (.cells #[.slice a n c,.slice b m d] 35)).alloc (.cells #[.bool s9,.slice a9 n9 c9,.slice b9 m9 d9] 44)).alloc (.cells #[.bool false,.slice none 0 0,.slice none 0 0] 44)).heap[w.heap.size+1+1]? = some (.cells #[.bool false,.slice none 0 0,.slice none 0 0] 44 (0,0))):=hd_ (by have h9:=ai_ ((w.alloc (.cells #[.slice a n c,.slice b m d] 35)).alloc (.cells #[.bool s9,.slice a9 n9 c9,.slice b9 m9 d9] 44)) #[.bool false,.slice none 0 0,.slice none 0 0] 44;rwa [al_,al_] at h9)
 have FU:=hd_ (hU.later HB.out)
 have FV:=hd_ (hV.later HB.out)
 have F3:=hd_ (h91.later HB.out)
 have F4:=hd_ (h92.later HB.out)
 obtain⟨x0,x1,x2,x3,x4⟩:=cb_ X0.out X1.out
 clear hU hV hf hz hz2 hk hb h0 s1 s2 hb9 lU lV lu lv h91 h92 h93 h94 h95 HX9 hval hr
 go_enter Tryz.func16,Tryz.ntmps16
 unfold frV
 go_wp2_with fail
 refine (HQ1 _ FU.out FV.out F3.out F4.out).mono ?_
 rintro e w1 ⟨a5,n5,c5,b5,m5,d5,rfl,h5,g5,b⟩
 clear x0 x1 x2 x3 x4 HQ1
 unfold frV
 have ba:=aa_ w1 (.cells #[.bool (zneg r.num),.slice a5 n5 c5,.slice b5 m5 d5] 44)
 have T0:=hd_ (ai_ w1 #[.bool (zneg r.num),.slice a5 n5 c5,.slice b5 m5 d5] 44)
 have hT9:w.heap.size+1+1 < w1.heap.size:=by
  have h9:=(Array.getElem?_eq_some_iff.1 (ac_ R0.out b)).1
  exact h9
 replace HB:=hd_ (ab_ (ab_ HB.out b) ba)
 replace X0:=hd_ (ac_ (ac_ X0.out b) ba)
 replace X1:=hd_ (ac_ (ac_ X1.out b) ba)
 replace R0:=hd_ (ac_ (ac_ R0.out b) ba)
 have FA:=h5.l_ ba
 have FD:=g5.l_ ba
 clear b ba h5 g5 FU FV F3 F4 X0 X1 hT9
 have tt:=ao_ T0.out
 obtain⟨t0,t1,t2⟩:=tt
 obtain⟨r0,r1,r2⟩:=ao_ R0.out
 have e0:=ae_ R0.out 0
 have e1:=ae_ R0.out 1
 have e2:=ae_ R0.out 2
 have R9:=hd_ (be_ R0.out (.bool (zneg r.num)) (.slice a5 n5 c5) (.slice b5 m5 d5))
 have P9:=hd_ (FA.out.stored3 R0.out (zneg r.num) a5 n5 c5 (.slice b5 m5 d5))
 have Q9:=hd_ (FD.out.stored3 R0.out (zneg r.num) a5 n5 c5 (.slice b5 m5 d5))
 have G9:=hd_ (as_ HB.out (show w.heap.size≤w.heap.size+1+1 by omega) (.bool (zneg r.num)) (.slice a5 n5 c5) (.slice b5 m5 d5))
 go_wp2
 refine bodyPost_ret (bo_ Tryz.results16 _ _ (w.heap.size+1+1) 44 #[.bool (zneg r.num),.slice a5 n5 c5,.slice b5 m5 d5] (0,0) _ rfl R9.out Tryz.underlying44 rfl (by kernel_rfl)) rfl ?_
 exact⟨a5,n5,c5,b5,m5,d5,rfl,P9.out,Q9.out,G9.out⟩
theorem jn_(S:PolySaid)(FS:FracSaid)(a:OA_)(n c:Nat)(b:OA_)(m d:Nat)(u v U V:LR_)(h s:Nat)(v9:Value)(x:Rat)(X:Nat)(w:World)(hU:Pv w a n c U (s+2))(hV:Pv w b m d V (s+2))(hf:isF U V u v)(hz:Fz U V h s)(hz2:Fz u v h s)(h9:Fr w v9 x X)(hk:Fok h s)(hb:(h+1) * ((h+1) * (X+8)+(s+3)+8)≤1900000000)(h0:ar_ x V=0):Calls Tryz.prog 16 #[.agg #[.slice a n c,.slice b m d],v9] w (en_ (ar_ x u / ar_ x v) (.bool (decide (ar_ x v≠0))) w):=by
 obtain⟨s1,s2⟩:=q0_ hk
 have hb9:∀n:Nat,n≤h→(n+1) * ((n+1) * (X+8)+(s+2)+8)≤1900000000:=fun n hn=>Nat.le_trans (Nat.mul_le_mul (by omega) (by have:(n+1) * (X+8)≤(h+1) * (X+8):=Nat.mul_le_mul_right _ (by omega);omega)) hb
 have lU:=hz.lu
 have lV:=hz.lv
 rw[hU.len] at lU
 rw[hV.len] at lV
 have lu:=hz2.lu
 have lv:=hz2.lv
 obtain⟨s9,a9,n9,c9,l9,b9,m9,d9,k9,rfl,h91,h92,h93,h94,h95⟩:=h9
 have HX9:=hd_ h95
 have HQ1:∀w':World,Pv w' a n c U (s+2)→Pv w' b m d V (s+2)→Wd w' a9 n9 c9 l9→Wd w' b9 m9 d9 k9→Calls Tryz.prog 68 #[.agg #[.slice a n c,.slice b m d],.agg #[.bool s9,.slice a9 n9 c9,.slice b9 m9 d9]] w' (en_ (ar_ x U / ar_ x V) (.bool (decide (ar_ x V≠0))) w'):=fun w' g1 g2 g3 g4=>g8_ S FS a n c b m d U V _ x (s+2) X w' g1 g2 (Fr.of g3 g4 h93 h94 HX9.out) (by omega) (by omega) (hb9 n lU) (hb9 m lV)
 rw[decide_eq_false (by simp[h0]:¬(ar_ x V≠0))] at HQ1
 obtain⟨r,hr⟩:∃r,ar_ x U / ar_ x V=r:=⟨_,rfl⟩
 rw[hr] at HQ1
 have HNO:∀w':World,Pv w' a n c U (s+2)→Pv w' b m d V (s+2)→Calls Tryz.prog 20 #[.agg #[.slice a n c,.slice b m d]] w' (LstE u v w'):=fun w' g1 g2=>hn_ S FS a n c b m d u v h s w' ⟨U,V,g1,g2,hf,hz,hz2⟩ hk
 obtain⟨q,hq⟩:∃r,ar_ x u / ar_ x v=r:=⟨_,rfl⟩
 obtain⟨bo,hbo⟩:∃r,decide (ar_ x v≠0)=r:=⟨_,rfl⟩
 have HQ2:∀(w':World) (a1:OA_) (n1 c1:Nat) (b1:OA_) (m1 d1:Nat),Rw w' a1 n1 c1 u→Rw w' b1 m1 d1 v→Wd w' a9 n9 c9 l9→Wd w' b9 m9 d9 k9→Calls Tryz.prog 68 #[.agg #[.slice a1 n1 c1,.slice b1 m1 d1],.agg #[.bool s9,.slice a9 n9 c9,.slice b9 m9 d9]] w' (en_ q (.bool bo) w'):=fun w' a1 n1 c1 b1 m1 d1 g1 g2 g3 g4=>hq▸hbo▸g8_ S FS a1 n1 c1 b1 m1 d1 u v _ x (s+2) X w' (Pv.right g1 hz2.qlen) (Pv.right g2 hz2.swap.qlen) (Fr.of g3 g4 h93 h94 HX9.out) (by rw[←g1.len];omega) (by rw[←g2.len];omega) (hb9 n1 (by rw[←g1.len];exact lu)) (hb9 m1 (by rw[←g2.len];exact lv))
 rw[hq,hbo]
 have HB:=hd_ (ab_ (ab_ (aa_ w (.cells #[.slice a n c,.slice b m d] 35)) (aa_ _ (.cells #[.bool s9,.slice a9 n9 c9,.slice b9 m9 d9] 44))) (aa_ _ (.cells #[.bool false,.slice none 0 0,.slice none 0 0] 44)))
 have X0:Hid ((((w.alloc (.cells #[.slice a n c,.slice b m d] 35)).alloc (.cells #[.bool s9,.slice a9 n9 c9,.slice b9 m9 d9] 44)).alloc (.cells #[.bool false,.slice none 0 0,.slice none 0 0] 44)).heap[w.heap.size]? = some (.cells #[.slice a n c,.slice b m d] 35 (0,0))):=hd_ (ac_ (ac_ (ai_ w _ _) (aa_ _ (.cells #[.bool s9,.slice a9 n9 c9,.slice b9 m9 d9] 44))) (aa_ _ (.cells #[.bool false,.slice none 0 0,.slice none 0 0] 44)))
 have X1:Hid ((((w.alloc (.cells #[.slice a n c,.slice b m d] 35)).alloc (.cells #[.bool s9,.slice a9 n9 c9,.slice b9 m9 d9] 44)).alloc (.cells #[.bool false,.slice none 0 0,.slice none 0 0] 44)).heap[w.heap.size+1]? = some (.cells #[.bool s9,.slice a9 n9 c9,.slice b9 m9 d9] 44 (0,0))):=hd_ (ac_ (by have h9:=ai_ (w.alloc (.cells #[.slice a n c,.slice b m d] 35)) #[.bool s9,.slice a9 n9 c9,.slice b9 m9 d9] 44;rwa [al_] at h9) (aa_ _ (.cells #[.bool false,.slice none 0 0,.slice none 0 0] 44)))
 have R0:Hid ((((w.alloc (.cells #[.slice a n c,.slice b m d] 35)).alloc (.cells #[.bool s9,.slice a9 n9 c9,.slice b9 m9 d9] 44)).alloc (.cells #[.bool false,.slice none 0 0,.slice none 0 0] 44)).heap[w.heap.size+1+1]? = some (.cells #[.bool false,.slice none 0 0,.slice none 0 0] 44 (0,0))):=hd_ (by have h9:=ai_ ((w.alloc (.cells #[.slice a n c,.slice b m d] 35)).alloc (.cells #[.bool s9,.slice a9 n9 c9,.slice b9 m9 d9] 44)) #[.bool false,.slice none 0 0,.slice none 0 0] 44;rwa [al_,al_] at h9)
 have FU:=hd_ (hU.later HB.out)
 have FV:=hd_ (hV.later HB.out)
 have F3:=hd_ (h91.later HB.out)
 have F4:=hd_ (h92.later HB.out)
 obtain⟨x0,x1,x2,x3,x4⟩:=cb_ X0.out X1.out
 clear hU hV hf hz hz2 hk hb h0 s1 s2 hb9 lU lV lu lv h91 h92 h93 h94 h95 HX9 hr hq hbo
 go_enter Tryz.func16,Tryz.ntmps16
 unfold frV
 go_wp2_with fail
 refine (HQ1 _ FU.out FV.out F3.out F4.out).mono ?_
 rintro e w1 ⟨a5,n5,c5,b5,m5,d5,rfl,h5,g5,b⟩
 clear x0 x1 x2 x3 x4 HQ1
 unfold frV
 have ba:=aa_ w1 (.cells #[.bool (zneg r.num),.slice a5 n5 c5,.slice b5 m5 d5] 44)
 have T0:=hd_ (ai_ w1 #[.bool (zneg r.num),.slice a5 n5 c5,.slice b5 m5 d5] 44)
 have hT9:w.heap.size+1+1 < w1.heap.size:=by
  have h9:=(Array.getElem?_eq_some_iff.1 (ac_ R0.out b)).1
  exact h9
 replace HB:=hd_ (ab_ (ab_ HB.out b) ba)
 replace X0:=hd_ (ac_ (ac_ X0.out b) ba)
 replace X1:=hd_ (ac_ (ac_ X1.out b) ba)
 replace R0:=hd_ (ac_ (ac_ R0.out b) ba)
 have GA:=hd_ ((FU.out.later b).later ba)
 have GB:=hd_ ((FV.out.later b).later ba)
 replace F3:=hd_ ((F3.out.later b).later ba)
 replace F4:=hd_ ((F4.out.later b).later ba)
 clear b ba h5 g5 FU FV
 obtain⟨g0,hg0⟩:∃g,w1.heap.size=g:=⟨_,rfl⟩
 rw[hg0] at hT9 T0
 go_wp2
 clear hg0
 generalize (w1.alloc (.cells #[.bool (zneg r.num),.slice a5 n5 c5,.slice b5 m5 d5] 44))=W at *
 replace HB:=bt_ HB (dw_ W)
 replace X0:Hid (W.drew.heap[w.heap.size]? = _):=hd_ X0.out
 replace X1:Hid (W.drew.heap[w.heap.size+1]? = _):=hd_ X1.out
 replace R0:Hid (W.drew.heap[w.heap.size+1+1]? = some (.cells #[.bool false,.slice none 0 0,.slice none 0 0] 44 (0,0))):=hd_ R0.out
 replace T0:Hid (W.drew.heap[g0]? = some (.cells #[.bool (zneg r.num),.slice a5 n5 c5,.slice b5 m5 d5] 44 (0,0))):=hd_ T0.out
 replace GA:=GA.l_ (dw_ W)
 replace GB:=GB.l_ (dw_ W)
 replace F3:=F3.l_ (dw_ W)
 replace F4:=F4.l_ (dw_ W)
 have pSn:=cb_ X0.out X1.out
 go_region_held3 (fun w'=>w'.cell? ⟨w.heap.size,0,none⟩=some (.slice a n c)∧w'.cell? ⟨w.heap.size,1,none⟩=some (.slice b m d)∧w'.cell? ⟨w.heap.size+1,0,none⟩=some (.bool s9)∧w'.cell? ⟨w.heap.size+1,1,none⟩=some (.slice a9 n9 c9)∧w'.cell? ⟨w.heap.size+1,2,none⟩=some (.slice b9 m9 d9)) (first | exact pSn | exact pSb _ _ _)
  (first
  | (go_at_call 20;(first
    | (refine (HNO _ GA.out GB.out).mono ?_;rintro e wp1 ⟨a21,n21,c21,b21,m21,d21,rfl,h21,g21,b⟩;replace HB:=bt_ HB b;replace X0:=bl_ X0 b;replace X1:=bl_ X1 b;replace R0:=bl_ R0 b;replace T0:=bl_ T0 b;replace GA:=GA.l_ b;replace GB:=GB.l_ b;replace F3:=F3.l_ b;replace F4:=F4.l_ b;have P1:=hd_ h21;have P2:=hd_ g21;clear h21 g21;clear b;clear pSn;have pSn:=cb_ X0.out X1.out;have pM1:=True.intro)))
  | (go_at_call 68;(first
    | (have pm1:=pM1;refine (HQ2 _ _ _ _ _ _ _ P1.out P2.out F3.out F4.out).mono ?_;rintro e wp2 ⟨a22,n22,c22,b22,m22,d22,rfl,h22,g22,b⟩;replace HB:=bt_ HB b;replace X0:=bl_ X0 b;replace X1:=bl_ X1 b;replace R0:=bl_ R0 b;replace T0:=bl_ T0 b;replace GA:=GA.l_ b;replace GB:=GB.l_ b;replace F3:=F3.l_ b;replace F4:=F4.l_ b;clear P1;clear P2;have Z1:=hd_ h22;have Z2:=hd_ g22;clear h22 g22;unfold frV;obtain⟨r0,r1,r2⟩:=ao_ T0.out;have e0:=ae_ T0.out 0;have e1:=ae_ T0.out 1;have e2:=ae_ T0.out 2;have pSb:=fun u v q=>cb_ (bk_ (g:=g0) X0.out (by omega) u v q) (bk_ (g:=g0) X1.out (by omega) u v q);clear b;clear pSn;have pSn:=cb_ X0.out X1.out;clear pM1 pm1;have pM2:=True.intro))))
 have T9:=hd_ (be_ T0.out (.bool (zneg q.num)) (.slice a22 n22 c22) (.slice b22 m22 d22))
 have RB:=hd_ (bk_ (g:=g0) R0.out (show w.heap.size+1+1≠g0 by omega) (.bool (zneg q.num)) (.slice a22 n22 c22) (.slice b22 m22 d22))
 have ZA:=hd_ (Z1.out.stored3 T0.out (zneg q.num) a22 n22 c22 (.slice b22 m22 d22))
 have ZD:=hd_ (Z2.out.stored3 T0.out (zneg q.num) a22 n22 c22 (.slice b22 m22 d22))
 have HB8:=hd_ (as_ HB.out (show w.heap.size≤g0 by omega) (.bool (zneg q.num)) (.slice a22 n22 c22) (.slice b22 m22 d22))
 generalize hW2:(((wp2.setCell ⟨g0,0,none⟩ (.bool (zneg q.num))).setCell ⟨g0,1,none⟩ (.slice a22 n22 c22)).setCell ⟨g0,2,none⟩ (.slice b22 m22 d22))=W2 at T9 RB ZA ZD HB8
 obtain⟨t0,t1,t2⟩:=ao_ T9.out
 obtain⟨y0,y1,y2⟩:=ao_ RB.out
 have f0:=ae_ RB.out 0
 have f1:=ae_ RB.out 1
 have f2:=ae_ RB.out 2
 have R9:=hd_ (be_ RB.out (.bool (zneg q.num)) (.slice a22 n22 c22) (.slice b22 m22 d22))
 have P9:=hd_ (ZA.out.stored3 RB.out (zneg q.num) a22 n22 c22 (.slice b22 m22 d22))
 have Q9:=hd_ (ZD.out.stored3 RB.out (zneg q.num) a22 n22 c22 (.slice b22 m22 d22))
 have G9:=hd_ (as_ HB8.out (show w.heap.size≤w.heap.size+1+1 by omega) (.bool (zneg q.num)) (.slice a22 n22 c22) (.slice b22 m22 d22))
 subst hW2
 go_wp2
 refine bodyPost_ret (bo_ Tryz.results16 _ _ (w.heap.size+1+1) 44 #[.bool (zneg q.num),.slice a22 n22 c22,.slice b22 m22 d22] (0,0) _ rfl R9.out Tryz.underlying44 rfl (by kernel_rfl)) rfl ?_
 exact⟨a22,n22,c22,b22,m22,d22,rfl,P9.out,Q9.out,G9.out⟩
theorem Fv.boxed{w:World}{a:Option Addr}{n c:Nat}{b:Option Addr}{m d:Nat}{u v:List Rat}{h s:Nat}(f:Fv w a n c b m d u v h s){g:Nat}{x y:Option Addr}{n1 c1 n2 c2:Nat}{t:TypeId}(hg:w.heap[g]? = some (.cells #[.slice x n1 c1,.slice y n2 c2] t (0,0)))(p q:Value):Fv ((w.setCell ⟨g,0,none⟩ p).setCell ⟨g,1,none⟩ q) a n c b m d u v h s:=by
 obtain⟨U,V,h1,h2,h3⟩:=f
 exact⟨U,V,h1.boxed hg p q,h2.boxed hg p q,h3⟩
theorem ppow_next(u:LR_)(k:Nat):ah_ (pmul (ah_ (ppow u k)) u)=ah_ (ppow u (k+1)):=br_ (a1_ (au_ _) (peq.refl _))
theorem pow_mul(S:PolySaid){u v:List Rat}(f:Fz u v 3 42){k:Nat}(hk:k < 3)(w':World)(a3:OA_)(n3 c3:Nat)(a4:OA_)(n4 c4:Nat)(g1:Rw w' a3 n3 c3 (ah_ (ppow u k)))(g2:Rw w' a4 n4 c4 u):Calls Tryz.prog 75 #[.slice a3 n3 c3,.slice a4 n4 c4] w' (b5_ (ah_ (ppow u (k+1))) w'):=by
 have h1:=(f.pow (by decide) k (by omega)).norms
 have h2:=h1.lu
 have h3:=f.lu
 have e3:=g1.len
 have e4:=g2.len
 have h9:=q2_ S (Pv.right g1 (N:=200) (fun q hq=>Nat.le_trans (h1.qlen q hq) (by omega))) (Pv.right g2 (N:=200) (fun q hq=>Nat.le_trans (f.qlen q hq) (by omega))) (by omega) (by omega) (Nat.le_trans (Nat.mul_le_mul (show n3+1≤20 by omega) (Nat.le_refl _)) (by decide))
 rwa [ppow_next] at h9

end Go.Proofs.YtocebjbjnfammaaGreat
