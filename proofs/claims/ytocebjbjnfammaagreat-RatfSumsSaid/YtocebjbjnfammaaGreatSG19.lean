import Derived.Test.YtocebjbjnfammaaGreatSG18
import Derived.Deep.RegionHeld3
import Derived.Deep.CutRange
import Derived.Deep.RegionWith
import Derived.Test.YtocebjbjnfammaaGreatSG1
set_option maxRecDepth 4096
set_option maxHeartbeats 16000000
namespace Go.Proofs.YtocebjbjnfammaaGreat
open Go.RowKit
theorem add_size{u v x y x1 y1 g up:List Rat}{H s t h k KK:Nat}(fu:Fz u v h s)(fx:Fz x y k t)(hH:max h k=H)(p:PartP v y H KK x1 y1 g)(f1:Fz x1 y1 H ((s+t+1) * (2 * H)))(hKK:(s+t+1) * (2 * H+1)+2=KK)(hH9:H≤1000)(hup:up=ah_ (padd (ah_ (pmul u y1)) (ah_ (pmul x x1)))) :
 Fz up g (2 * H) (2 * ((s+t+1) * (2 * H+1))+3):=by
 have f2:Fz u x H (s+t):=by rw[←hH];exact fu.pair fx
 have f3:=(f2.add f1 (by omega) (by omega)).norms
 have f4:=f3.pair p.sz
 have e:ah_ (padd (pmul u y1) (pmul x1 x))=up:=by
  rw[hup]
  exact bu_ (c5_ (ar_ _).symm ((lc_ x1 x).trans (ar_ _).symm))
 rw[e] at f4
 have e2:(s+t+1) * (2 * H+1)=(s+t+1) * (2 * H)+(s+t+1):=by rw[Nat.mul_add,Nat.mul_one]
 exact f4.mono (by omega) (by omega)
theorem mt_{p q:List Rat}{H R N:Nat}(hp:Sm p H R)(hq:Sm q H R)(hN:1+H * (2 * R+7)≤N):∀z∈ah_ (pmul p q),qlen z≤N:=fun z hz=>by
 have h1:=ee_ (A:=R+2) (B:=R+2) (by omega) (by omega) hp.2 hq.2 z hz
 have h2:p.length * (R+2+(R+2)+3)≤H * (2 * R+7):=Nat.mul_le_mul hp.1 (by omega)
 omega
theorem lz_{p q:List Rat}{H R:Nat}(hp:Sm p H R)(hq:Sm q H R):(ah_ (pmul p q)).length≤2 * H:=by
 have h1:=ax_ (pmul p q)
 have h2:=b1_ p q
 have:=hp.1
 have:=hq.1
 omega
theorem uf_(S:PolySaid)(FS:FracSaid)(a:OA_)(n c:Nat)(b:OA_)(m d:Nat)(u v:LR_)(h s:Nat)(a':OA_)(n' c':Nat)(b':OA_)(m' d':Nat)(x y:LR_)(k t:Nat)(w:World)(hA:Fv w a n c b m d u v h s)(hB:Fv w a' n' c' b' m' d' x y k t)(hk:Fok2 h s k t):Calls Tryz.prog 35 #[.agg #[.slice a n c,.slice b m d],.agg #[.slice a' n' c',.slice b' m' d']] w (LstF (padd (pmul u y) (pmul x v)) (pmul v y) w):=by
 obtain⟨hu,fu,h1⟩:=nu_ hA
 obtain⟨hx,fx,k1⟩:=nu_ hB
 have HNA:∀w':World,Fv w' a n c b m d u v h s→Calls Tryz.prog 20 #[.agg #[.slice a n c,.slice b m d]] w' (LstE u v w'):=fun w' g=>fa_ S FS a n c b m d u v (h+2) s w' (g.mono (by omega) (Nat.le_refl _)) (hk.1.less (by omega) (by omega) (by omega))
 have HNB:∀w':World,Fv w' a' n' c' b' m' d' x y k t→Calls Tryz.prog 20 #[.agg #[.slice a' n' c',.slice b' m' d']] w' (LstE x y w'):=fun w' g=>fa_ S FS a' n' c' b' m' d' x y (k+2) t w' (g.mono (by omega) (Nat.le_refl _)) (hk.1.less (by omega) (by omega) (by omega))
 have hk2:=hk.2
 obtain⟨H,hH⟩:∃H,max h k=H:=⟨_,rfl⟩
 rw[hH] at hk2
 have hH1:1≤H:=by omega
 have hS9:s+t≤(s+t+1) * (2 * H+1):=Nat.le_trans (Nat.le_succ _) (Nat.le_mul_of_pos_right _ (by omega))
 have hk0:Pok H (s+t):=hk2.less (by omega) (by omega)
 have hfew:=pok_few hk2
 have hKs:(s+t+1) * (2 * H+1)=(s+t+1) * (2 * H)+(s+t+1):=by rw[Nat.mul_add,Nat.mul_one]
 have hfar:(2 * ((s+t+1) * (2 * H+1))+3+1) * (2 * (2 * H)+1)=(2 * ((s+t+1) * (2 * H+1))+4) * (4 * H)+(2 * ((s+t+1) * (2 * H+1))+4):=by rw[Nat.mul_add,Nat.mul_one,show 2 * (2 * H)=4 * H by omega]
 have hroom:1+H * (2 * ((s+t+1) * (2 * H))+7)≤(2 * ((s+t+1) * (2 * H+1))+4) * (4 * H):=by
  have e1:H * (2 * ((s+t+1) * (2 * H))+7)≤H * (2 * (2 * ((s+t+1) * (2 * H+1))+4)+3):=Nat.mul_le_mul_left _ (by omega)
  have e2:(2 * ((s+t+1) * (2 * H+1))+4) * (4 * H)=H * (4 * (2 * ((s+t+1) * (2 * H+1))+4)):=by rw[Nat.mul_comm,Nat.mul_comm 4 H,Nat.mul_assoc]
  have e3:H * (2 * (2 * ((s+t+1) * (2 * H+1))+4)+3+1)≤H * (4 * (2 * ((s+t+1) * (2 * H+1))+4)):=Nat.mul_le_mul_left _ (by omega)
  have e4:=Nat.mul_add H (2 * (2 * ((s+t+1) * (2 * H+1))+4)+3) 1
  omega
 have hst:s+t+2≤1900000000:=by omega
 have fvy:Fz v y H (s+t):=by rw[←hH];exact fu.swap.pair fx.swap
 obtain⟨KK,hKK⟩:∃K,(s+t+1) * (2 * H+1)+2=K:=⟨_,rfl⟩
 have HPN:∀(U V:LR_),Fz U V H (s+t)→Mon1 V→∀(w':World) (a3:OA_) (n3 c3:Nat) (b3:OA_) (m3 d3:Nat),Rw w' a3 n3 c3 U→Rw w' b3 m3 d3 V→Calls Tryz.prog 62 #[.slice a3 n3 c3,.slice b3 m3 d3] w' (l4_ U V H KK w'):=fun U V f9 hV w' a3 n3 c3 b3 m3 d3 g1 g2=>hKK▸gv_ S a3 n3 c3 U b3 m3 d3 V H (s+t) w' ((Pv.small g1 f9.fst).more hst) ((Pv.small g2 f9.snd).more hst) f9 hk0 hV.1
 have HP1:=HPN v y fvy hx.monic
 obtain⟨RR,hRR⟩:∃R,(s+t+1) * (2 * H)=R:=⟨_,rfl⟩
 have hsR:s+t≤RR:=by rw[←hRR];exact Nat.le_trans (Nat.le_succ _) (Nat.le_mul_of_pos_right _ (by omega))
 have HSX:Hid (∀x1 y1 g,PartP v y H KK x1 y1 g→Fz x1 y1 H RR):=hd_ (fun x1 y1 g p=>hRR▸fvy.right (p.isF hx.monic) hH1 (by have:=hk0.1;omega))
 have HU:Hid (Sm u H RR∧Sm x H RR):=hd_ ⟨(fu.mono (show h≤H by omega) (show s≤RR by omega)).fst,(fx.mono (show k≤H by omega) (show t≤RR by omega)).fst⟩
 have HMU:∀(w':World) (a3:OA_) (n3 c3:Nat) (p:LR_) (a4:OA_) (n4 c4:Nat) (q:LR_),Rw w' a3 n3 c3 p→Rw w' a4 n4 c4 q→Sm p H RR→Sm q H RR→Calls Tryz.prog 75 #[.slice a3 n3 c3,.slice a4 n4 c4] w' (b8_ (ah_ (pmul p q)) w'):=fun w' a3 n3 c3 p a4 n4 c4 q g1 g2 g3 g4=>nb_ S (Pv.small g1 g3) (Pv.small g2 g4) (by rw[←g1.len];have:=g3.1;have:=hk0.1;omega) (by rw[←g2.len];have:=g4.1;have:=hk0.1;omega) (sq_ hk0 (by rw[←g1.len];exact g3.1) (by omega) (by omega))
 have HAD:∀(p q p' q':LR_),Sm p H RR→Sm q H RR→Sm p' H RR→Sm q' H RR→∀(w':World) (a3:OA_) (n3 c3:Nat) (a4:OA_) (n4 c4:Nat),Rw w' a3 n3 c3 (ah_ (pmul p q))→Rw w' a4 n4 c4 (ah_ (pmul p' q'))→Calls Tryz.prog 83 #[.slice a3 n3 c3,.slice a4 n4 c4] w' (b8_ (ah_ (padd (ah_ (pmul p q)) (ah_ (pmul p' q')))) w'):=fun p q p' q' g1 g2 g3 g4 w' a3 n3 c3 a4 n4 c4 k1 k2=>add_pv S (Pv.right k1 (mt_ (N:=900000000) g1 g2 (by rw[←hRR];omega))) (Pv.right k2 (mt_ (N:=900000000) g3 g4 (by rw[←hRR];omega))) (by rw[←k1.len];have:=lz_ g1 g2;have:=hk2.1;omega) (by rw[←k2.len];have:=lz_ g3 g4;have:=hk2.1;omega) (Nat.le_refl _) (Nat.le_refl _)
 obtain⟨S2,hS2⟩:∃K,2 * ((s+t+1) * (2 * H+1))+3=K:=⟨_,rfl⟩
 have HSZ:Hid (∀x1 y1 g up,PartP v y H KK x1 y1 g→up=ah_ (padd (ah_ (pmul u y1)) (ah_ (pmul x x1)))→Fz up g (2 * H) S2∧Mon1 g):=hd_ (fun x1 y1 g up p e=>⟨hS2▸add_size fu fx hH p (by rw[hRR];exact HSX.out _ _ _ p) hKK (by have:=hk0.1;omega) e,p.gcd.monic (p.g0 hx.monic.1)⟩)
 have HP2:∀(up g:LR_),Fz up g (2 * H) S2→Mon1 g→∀(w':World) (a3:OA_) (n3 c3:Nat) (b3:OA_) (m3 d3:Nat),Rw w' a3 n3 c3 up→Rw w' b3 m3 d3 g→Calls Tryz.prog 62 #[.slice a3 n3 c3,.slice b3 m3 d3] w' (l4_ up g (2 * H) ((S2+1) * (2 * (2 * H)+1)+2) w'):=fun up g f9 hg w' a3 n3 c3 b3 m3 d3 g1 g2=>gv_ S a3 n3 c3 up b3 m3 d3 g (2 * H) S2 w' ((Pv.small g1 f9.fst).more (by omega)) ((Pv.small g2 f9.snd).more (by omega)) f9 (hS2▸hk2) hg.1
 have HM5:∀(x1 y1 up g up2 g2 q:LR_) (K2:Nat),Fz x1 y1 H RR→Fz up g (2 * H) S2→Mon1 g→PartP up g (2 * H) K2 up2 g2 q→∀(w':World) (a3:OA_) (n3 c3:Nat) (a4:OA_) (n4 c4:Nat),Rw w' a3 n3 c3 (ah_ (pmul x1 y1))→Rw w' a4 n4 c4 g2→Calls Tryz.prog 75 #[.slice a3 n3 c3,.slice a4 n4 c4] w' (b8_ (ah_ (pmul (ah_ (pmul x1 y1)) g2)) w'):=fun x1 y1 up g up2 g2 q K2 f1 f2 mg p2 w' a3 n3 c3 a4 n4 c4 g3 g4=>by
  have f5:=f2.right (p2.isF mg) (by omega) (by have:=hk2.1;omega)
  rw[←hS2] at f5
  have hl:=lz_ f1.fst f1.snd
  have hl2:=f5.lv
  have hk9:=hk2.1
  refine nb_ S (Pv.right g3 (mt_ f1.fst f1.snd (Nat.le_trans (by rw[←hRR];exact hroom) (Nat.le_of_eq (show _=(2 * ((s+t+1) * (2 * H+1))+3+1) * (2 * (2 * H)) by rw[show 2 * (2 * H)=4 * H by omega]))))) (Pv.small g4 f5.snd) (by rw[←g3.len];omega) (by rw[←g4.len];omega) (sq_ hk2 (by rw[←g3.len];exact hl) (by omega) (Nat.le_refl _))
 have HEN:Hid (∀x1 y1 g up2 g2 q K2,PartP v y H KK x1 y1 g→PartP (ah_ (padd (ah_ (pmul u y1)) (ah_ (pmul x x1)))) g (2 * H) K2 up2 g2 q→isF (padd (pmul u y) (pmul x v)) (pmul v y) up2 (ah_ (pmul (ah_ (pmul x1 y1)) g2))):=hd_ (fun x1 y1 g up2 g2 q K2 p p2=>isF_add hu hx p ((ar_ _).trans (c5_ (ar_ _) (ar_ _))) p2 ((ar_ _).trans (a6_ (ar_ _) (peq.refl _))) (a9_ _))
 have HB:=hd_ (ab_ (ab_ (aa_ w (.cells #[.slice a n c,.slice b m d] 35)) (aa_ _ (.cells #[.slice a' n' c',.slice b' m' d'] 35))) (aa_ _ (.cells #[.slice none 0 0,.slice none 0 0] 35)))
 have X0:Hid ((((w.alloc (.cells #[.slice a n c,.slice b m d] 35)).alloc (.cells #[.slice a' n' c',.slice b' m' d'] 35)).alloc (.cells #[.slice none 0 0,.slice none 0 0] 35)).heap[w.heap.size]? = some (.cells #[.slice a n c,.slice b m d] 35 (0,0))):=hd_ (ac_ (ac_ (ai_ w _ _) (aa_ _ (.cells #[.slice a' n' c',.slice b' m' d'] 35))) (aa_ _ (.cells #[.slice none 0 0,.slice none 0 0] 35)))
 have X1:Hid ((((w.alloc (.cells #[.slice a n c,.slice b m d] 35)).alloc (.cells #[.slice a' n' c',.slice b' m' d'] 35)).alloc (.cells #[.slice none 0 0,.slice none 0 0] 35)).heap[w.heap.size+1]? = some (.cells #[.slice a' n' c',.slice b' m' d'] 35 (0,0))):=hd_ (ac_ (by have h9:=ai_ (w.alloc (.cells #[.slice a n c,.slice b m d] 35)) #[.slice a' n' c',.slice b' m' d'] 35;rwa [al_] at h9) (aa_ _ (.cells #[.slice none 0 0,.slice none 0 0] 35)))
 have R0:Hid ((((w.alloc (.cells #[.slice a n c,.slice b m d] 35)).alloc (.cells #[.slice a' n' c',.slice b' m' d'] 35)).alloc (.cells #[.slice none 0 0,.slice none 0 0] 35)).heap[w.heap.size+1+1]? = some (.cells #[.slice none 0 0,.slice none 0 0] 35 (0,0))):=hd_ (by have h9:=ai_ ((w.alloc (.cells #[.slice a n c,.slice b m d] 35)).alloc (.cells #[.slice a' n' c',.slice b' m' d'] 35)) #[.slice none 0 0,.slice none 0 0] 35;rwa [al_,al_] at h9)
 have FA:=hd_ (hA.later HB.out)
 have FB:=hd_ (hB.later HB.out)
 clear hA hB hk hk2 hk0 hH hH1 hS9 hu fu h1 hx fx k1 hfew hKs hst fvy hKK HPN hRR hsR hS2 hfar hroom
 go_enter Tryz.func35,Tryz.ntmps35
 go_upto_region 1 with fail
 go_cut [13] from 9 to 12 (fun _ wx=>∃(a1:OA_) (n1 c1:Nat) (b1:OA_) (m1 d1:Nat) (a2:OA_) (n2 c2:Nat) (b2:OA_) (m2 d2:Nat),Hid (wx.heap[w.heap.size]? = some (.cells #[.slice a1 n1 c1,.slice b1 m1 d1] 35 (0,0)))∧Hid (wx.heap[w.heap.size+1]? = some (.cells #[.slice a2 n2 c2,.slice b2 m2 d2] 35 (0,0)))∧Hid (wx.heap[w.heap.size+1+1]? = some (.cells #[.slice none 0 0,.slice none 0 0] 35 (0,0)))∧Hid (Rw wx a1 n1 c1 u)∧Hid (Rw wx b1 m1 d1 v)∧Hid (Rw wx a2 n2 c2 x)∧Hid (Rw wx b2 m2 d2 y)∧Hid (Below w.heap.size w wx))
 case first=>
  obtain⟨x0,x1,x2,x3⟩:=am_ X0.out X1.out
  go_wp2
  clear x0 x1 x2 x3
  generalize (((w.alloc (.cells #[.slice a n c,.slice b m d] 35)).alloc (.cells #[.slice a' n' c',.slice b' m' d'] 35)).alloc (.cells #[.slice none 0 0,.slice none 0 0] 35))=W at *
  replace HB:=bt_ HB (dw_ W)
  replace X0:Hid (W.drew.heap[w.heap.size]? = _):=hd_ X0.out
  replace X1:Hid (W.drew.heap[w.heap.size+1]? = _):=hd_ X1.out
  replace R0:Hid (W.drew.heap[w.heap.size+1+1]? = some (.cells #[.slice none 0 0,.slice none 0 0] 35 (0,0))):=hd_ R0.out
  replace FA:=FA.l_ (dw_ W)
  replace FB:=FB.l_ (dw_ W)
  obtain⟨pk0,pk1,pk2,pk3⟩:=am_ X0.out X1.out
  first | go_region_with (first
   | (go_at_call 20;(first
     | (have pm1:=pM1;refine (HNB _ FB.out).mono ?_;rintro e wp2 ⟨a2,n2,c2,b2,m2,d2,rfl,h2,g2,b⟩;replace HB:=bt_ HB b;replace X0:=bl_ X0 b;replace X1:=bl_ X1 b;replace R0:=bl_ R0 b;replace FA:=FA.l_ b;replace FB:=FB.l_ b;replace P1:=P1.l_ b;replace Q1:=Q1.l_ b;have P2:=hd_ h2;have Q2:=hd_ g2;clear h2 g2;have e0:=ad_ X0.out 0;have e1:=ad_ X0.out 1;have e2:=ad_ X1.out 0;have e3:=ad_ X1.out 1;clear b;obtain⟨pk0,pk1,pk2,pk3⟩:=am_ X0.out X1.out;clear pM1 pm1;have pM2:=True.intro)
     | (refine (HNA _ FA.out).mono ?_;rintro e wp1 ⟨a1,n1,c1,b1,m1,d1,rfl,h1,g1,b⟩;replace HB:=bt_ HB b;replace X0:=bl_ X0 b;replace X1:=bl_ X1 b;replace R0:=bl_ R0 b;replace FA:=FA.l_ b;replace FB:=FB.l_ b;have P1:=hd_ h1;have Q1:=hd_ g1;clear h1 g1;clear b;obtain⟨pk0,pk1,pk2,pk3⟩:=am_ X0.out X1.out;have pM1:=True.intro)))) | fail
  all_goals (
   have Y1:=hd_ (bh_ (g:=w.heap.size) X1.out (show w.heap.size+1≠w.heap.size by omega) (.slice a1 n1 c1) (.slice b1 m1 d1))
   have Y0:=hd_ (bh_ (g:=w.heap.size+1) (a4_ X0.out (.slice a1 n1 c1) (.slice b1 m1 d1)) (show w.heap.size≠w.heap.size+1 by omega) (.slice a2 n2 c2) (.slice b2 m2 d2))
   have YR:=hd_ (bh_ (g:=w.heap.size+1) (bh_ (g:=w.heap.size) R0.out (show w.heap.size+1+1≠w.heap.size by omega) (.slice a1 n1 c1) (.slice b1 m1 d1)) (show w.heap.size+1+1≠w.heap.size+1 by omega) (.slice a2 n2 c2) (.slice b2 m2 d2))
   have G9:=hd_ (an_ (an_ HB.out (show w.heap.size≤w.heap.size by omega) (.slice a1 n1 c1) (.slice b1 m1 d1)) (show w.heap.size≤w.heap.size+1 by omega) (.slice a2 n2 c2) (.slice b2 m2 d2))
   have Z1:=hd_ ((P1.out.boxed X0.out (.slice a1 n1 c1) (.slice b1 m1 d1)).boxed Y1.out (.slice a2 n2 c2) (.slice b2 m2 d2))
   have Z2:=hd_ ((Q1.out.boxed X0.out (.slice a1 n1 c1) (.slice b1 m1 d1)).boxed Y1.out (.slice a2 n2 c2) (.slice b2 m2 d2))
   have Z3:=hd_ ((P2.out.boxed X0.out (.slice a1 n1 c1) (.slice b1 m1 d1)).boxed Y1.out (.slice a2 n2 c2) (.slice b2 m2 d2))
   have Z4:=hd_ ((Q2.out.boxed X0.out (.slice a1 n1 c1) (.slice b1 m1 d1)).boxed Y1.out (.slice a2 n2 c2) (.slice b2 m2 d2))
   have Y2:=hd_ (a4_ Y1.out (.slice a2 n2 c2) (.slice b2 m2 d2))
   go_wp2
   go_meet
   exact⟨a1,n1,c1,b1,m1,d1,a2,n2,c2,b2,m2,d2,Y0,Y2,YR,Z1,Z2,Z3,Z4,G9⟩)
 case rest=>
  obtain⟨a1,n1,c1,b1,m1,d1,a2,n2,c2,b2,m2,d2,Y0,Y1,YR,U1,V1,U2,V2,HBc⟩:=hcut
  clear X0 X1 R0 FA FB HNA HNB HB
  obtain⟨x0,x1,x2,x3⟩:=am_ Y0.out Y1.out
  go_wp2_with fail
  refine (HP1 _ _ _ _ _ _ _ V1.out V2.out).mono ?_
  rintro e w3 ⟨a3,n3,c3,x1',a4,n4,c4,y1,a5,n5,c5,g,rfl,h3,h4,h5,p1,bw⟩
  clear x0 x1 x2 x3 HP1 V1 V2
  have HB:=hd_ (ab_ HBc.out bw)
  have X0:=hd_ (ac_ Y0.out bw)
  have X1:=hd_ (ac_ Y1.out bw)
  have R0:=hd_ (ac_ YR.out bw)
  replace U1:=U1.l_ bw
  replace U2:=U2.l_ bw
  have XX:=hd_ h3
  have YY:=hd_ h4
  have GG:=hd_ h5
  have PP:=hd_ p1
  have f1:=HSX.out _ _ _ p1
  have F1:=hd_ f1
  have HM3:=fun (w':World) (k1:Rw w' a1 n1 c1 u) (k2:Rw w' a4 n4 c4 y1)=>HMU w' a1 n1 c1 u a4 n4 c4 y1 k1 k2 HU.out.1 f1.snd
  have HM4:=fun (w':World) (k1:Rw w' a2 n2 c2 x) (k2:Rw w' a3 n3 c3 x1')=>HMU w' a2 n2 c2 x a3 n3 c3 x1' k1 k2 HU.out.2 f1.fst
  have HM6:=fun (w':World) (k1:Rw w' a3 n3 c3 x1') (k2:Rw w' a4 n4 c4 y1)=>HMU w' a3 n3 c3 x1' a4 n4 c4 y1 k1 k2 f1.fst f1.snd
  have HA3:=HAD u y1 x x1' HU.out.1 f1.snd HU.out.2 f1.fst
  obtain⟨up,hup⟩:∃l,ah_ (padd (ah_ (pmul u y1)) (ah_ (pmul x x1')))=l:=⟨_,rfl⟩
  have fup:=HSZ.out _ _ _ up p1 hup.symm
  have HQ2:=HP2 up g fup.1 fup.2
  have HM7:=fun (up2 g2 q:LR_) (K2:Nat) (p2:PartP up g (2 * H) K2 up2 g2 q)=>HM5 x1' y1 up g up2 g2 q K2 f1 fup.1 fup.2 p2
  have HE2:Hid (∀up2 g2 q K2,PartP up g (2 * H) K2 up2 g2 q→isF (padd (pmul u y) (pmul x v)) (pmul v y) up2 (ah_ (pmul (ah_ (pmul x1' y1)) g2))):=hd_ (fun up2 g2 q K2 p2=>HEN.out _ _ _ _ _ _ _ p1 (by rw[hup];exact p2))
  rw[hup] at HA3
  generalize ah_ (pmul u y1)=pa at *
  generalize ah_ (pmul x x1')=pb at *
  generalize ah_ (pmul x1' y1)=pc at *
  generalize (S2+1) * (2 * (2 * H)+1)+2=K2 at HQ2
  clear Y0 Y1 YR HBc h3 h4 h5 p1 bw f1 F1 hup fup HSX HU HMU HAD HSZ HP2 HM5 HEN PP
  go_wp2
  replace HB:=bt_ HB (dw_ w3)
  replace X0:Hid (w3.drew.heap[w.heap.size]? = _):=hd_ X0.out
  replace X1:Hid (w3.drew.heap[w.heap.size+1]? = _):=hd_ X1.out
  replace R0:Hid (w3.drew.heap[w.heap.size+1+1]? = some (.cells #[.slice none 0 0,.slice none 0 0] 35 (0,0))):=hd_ R0.out
  replace U1:=U1.l_ (dw_ w3)
  replace U2:=U2.l_ (dw_ w3)
  replace XX:=XX.l_ (dw_ w3)
  replace YY:=YY.l_ (dw_ w3)
  replace GG:=GG.l_ (dw_ w3)
  have pSn:=am_ X0.out X1.out
  go_region_held3 (fun w'=>w'.cell? ⟨w.heap.size,0,none⟩=some (.slice a1 n1 c1)∧w'.cell? ⟨w.heap.size,1,none⟩=some (.slice b1 m1 d1)∧w'.cell? ⟨w.heap.size+1,0,none⟩=some (.slice a2 n2 c2)∧w'.cell? ⟨w.heap.size+1,1,none⟩=some (.slice b2 m2 d2)) (exact pSn)
   (first
   | (go_at_call 75;(first
     | (have pm1:=pM1;refine (HM4 _ U2.out XX.out).mono ?_;rintro e wp2 ⟨a22,n22,c22,rfl,h22,b⟩;replace HB:=bt_ HB b;replace X0:=bl_ X0 b;replace X1:=bl_ X1 b;replace R0:=bl_ R0 b;replace U1:=U1.l_ b;replace U2:=U2.l_ b;replace XX:=XX.l_ b;replace YY:=YY.l_ b;replace GG:=GG.l_ b;replace P3:=P3.l_ b;have P4:=hd_ h22;clear h22;clear b;clear pSn;have pSn:=am_ X0.out X1.out;clear pM1 pm1;have pM2:=True.intro)
     | (refine (HM3 _ U1.out YY.out).mono ?_;rintro e wp1 ⟨a21,n21,c21,rfl,h21,b⟩;replace HB:=bt_ HB b;replace X0:=bl_ X0 b;replace X1:=bl_ X1 b;replace R0:=bl_ R0 b;replace U1:=U1.l_ b;replace U2:=U2.l_ b;replace XX:=XX.l_ b;replace YY:=YY.l_ b;replace GG:=GG.l_ b;have P3:=hd_ h21;clear h21;clear b;clear pSn;have pSn:=am_ X0.out X1.out;have pM1:=True.intro)))
   | (go_at_call 83;(first
     | (have pm2:=pM2;refine (HA3 _ _ _ _ _ _ _ P3.out P4.out).mono ?_;rintro e wp3 ⟨a23,n23,c23,rfl,h23,b⟩;replace HB:=bt_ HB b;replace X0:=bl_ X0 b;replace X1:=bl_ X1 b;replace R0:=bl_ R0 b;replace U1:=U1.l_ b;replace U2:=U2.l_ b;replace XX:=XX.l_ b;replace YY:=YY.l_ b;replace GG:=GG.l_ b;replace P3:=P3.l_ b;clear P4;have UP:=hd_ h23;clear h23;clear b;clear pSn;have pSn:=am_ X0.out X1.out;clear pM2 pm2;have pM3:=True.intro))))
  clear HM3 HM4 HA3 U1 U2
  go_wp2_with fail
  refine (HQ2 _ _ _ _ _ _ _ UP.out GG.out).mono ?_
  rintro e w6 ⟨a6,n6,c6,up2,a7,n7,c7,g2,a8,n8,c8,q,rfl,h6,h7,h8,p2,bw⟩
  replace HB:=bt_ HB bw
  replace R0:=bl_ R0 bw
  replace XX:=XX.l_ bw
  replace YY:=YY.l_ bw
  have P9:=hd_ h6
  have G2:=hd_ h7
  have HM8:=HM7 up2 g2 q K2 p2
  have KF:=hd_ (HE2.out up2 g2 q K2 p2)
  clear bw h6 h7 h8 p2 HQ2 UP GG HM7 HE2
  go_wp2_with fail
  refine (HM6 _ XX.out YY.out).mono ?_
  rintro e w7 ⟨a9,n9,c9,rfl,h9,bw⟩
  replace HB:=bt_ HB bw
  replace R0:=bl_ R0 bw
  replace P9:=P9.l_ bw
  replace G2:=G2.l_ bw
  have PC:=hd_ h9
  clear bw h9 HM6 XX YY X0 X1
  go_wp2_with fail
  refine (HM8 _ _ _ _ _ _ _ PC.out G2.out).mono ?_
  rintro e w8 ⟨a10,n10,c10,rfl,h10,bw⟩
  replace HB:=bt_ HB bw
  replace R0:=bl_ R0 bw
  replace P9:=P9.l_ bw
  have Q9:=hd_ h10
  clear bw h10 HM8 PC G2
  generalize ah_ (pmul pc g2)=pd at *
  obtain⟨r0,r1⟩:=a0_ R0.out
  have e0:=ad_ R0.out 0
  have e1:=ad_ R0.out 1
  have R9:=hd_ (a4_ R0.out (.slice a6 n6 c6) (.slice a10 n10 c10))
  replace P9:=hd_ (P9.out.boxed R0.out (.slice a6 n6 c6) (.slice a10 n10 c10))
  replace Q9:=hd_ (Q9.out.boxed R0.out (.slice a6 n6 c6) (.slice a10 n10 c10))
  have G9:=hd_ (an_ HB.out (show w.heap.size≤w.heap.size+1+1 by omega) (.slice a6 n6 c6) (.slice a10 n10 c10))
  go_wp2
  refine bodyPost_ret (results_cell_row Tryz.results35 _ _ (w.heap.size+1+1) 35 #[.slice a6 n6 c6,.slice a10 n10 c10] (0,0) _ rfl R9.out Tryz.underlying35 rfl (by kernel_rfl)) rfl ?_
  exact⟨a6,n6,c6,up2,a10,n10,c10,pd,rfl,P9.out,Q9.out,KF.out,G9.out⟩
theorem PartP.of{U U' V x y g:List Rat}{h K:Nat}(p:PartP U V h K x y g)(e:peq U U'):PartP U' V h K x y g:=⟨p.nx,p.ny,p.ng,e.symm.trans p.dx,p.dy,⟨p.gcd.1.of e (peq.refl _) (peq.refl _),p.gcd.2⟩,p.sz⟩
theorem isF.none_iff{U V u v:List Rat}(h:isF U V u v):(plen U=0∨plen V=0)↔u=[]:=by
 refine ⟨fun e=>(h.zero e).1,fun e=>?_⟩
 by_cases hV:plen V=0
 ·exact .inr hV
 ·obtain⟨G,h1,_,_⟩:=h.whole hV
  refine .inl ?_
  rw[ao_ h1,e];rfl
theorem isF.same_iff{U V u v X Y x y:List Rat}(h:isF U V u v)(k:isF X Y x y)(hV:plen V≠0)(hY:plen Y≠0):peq (pmul U Y) (pmul X V)↔(u=x∧v=y):=by
 constructor
 ·intro e
  have:=(h.cross hV hY e).same k
  exact⟨this.1.symm,this.2.symm⟩
 ·rintro ⟨rfl,rfl⟩
  obtain⟨G,g1,g2,_⟩:=h.whole hV
  obtain⟨K,k1,k2,_⟩:=k.whole hY
  refine ap_ fun z=>?_
  have e1:=ak_ z g1
  have e2:=ak_ z g2
  have e3:=ak_ z k1
  have e4:=ak_ z k2
  rw[ae_] at e1 e2 e3 e4
  rw[ae_,ae_,e1,e2,e3,e4];grind
theorem on_{h s:Nat}(hk:Fok h s):s+2≤900000000∧h≤50:=by
 have:=mp_ hk
 have:=hk.2.1
 omega
theorem so_(a:OA_)(n c:Nat)(b:OA_)(m d:Nat)(U V:LR_)(N:Nat)(a':OA_)(n' c':Nat)(b':OA_)(m' d':Nat)(X Y:LR_)(K:Nat)(w:World)(hU:Pv w a n c U N)(hV:Pv w b m d V N)(hX:Pv w a' n' c' X K)(hY:Pv w b' m' d' Y K)(r:Bool)(HZA:∀w':World,Pv w' a n c U N→Pv w' b m d V N→Calls Tryz.prog 23 #[.agg #[.slice a n c,.slice b m d]] w' (bi_ (.bool true) w'))(HZB:∀w':World,Pv w' a' n' c' X K→Pv w' b' m' d' Y K→Calls Tryz.prog 23 #[.agg #[.slice a' n' c',.slice b' m' d']] w' (bi_ (.bool r) w')):Calls Tryz.prog 24 #[.agg #[.slice a n c,.slice b m d],.agg #[.slice a' n' c',.slice b' m' d']] w (bi_ (.bool r) w):=by
 have HB:=hd_ (ab_ (aa_ w (.cells #[.slice a n c,.slice b m d] 35)) (aa_ _ (.cells #[.slice a' n' c',.slice b' m' d'] 35)))
 have X0:Hid (((w.alloc (.cells #[.slice a n c,.slice b m d] 35)).alloc (.cells #[.slice a' n' c',.slice b' m' d'] 35)).heap[w.heap.size]? = some (.cells #[.slice a n c,.slice b m d] 35 (0,0))):=hd_ (ac_ (ai_ w _ _) (aa_ _ (.cells #[.slice a' n' c',.slice b' m' d'] 35)))
 have X1:Hid (((w.alloc (.cells #[.slice a n c,.slice b m d] 35)).alloc (.cells #[.slice a' n' c',.slice b' m' d'] 35)).heap[w.heap.size+1]? = some (.cells #[.slice a' n' c',.slice b' m' d'] 35 (0,0))):=hd_ (by have h9:=ai_ (w.alloc (.cells #[.slice a n c,.slice b m d] 35)) #[.slice a' n' c',.slice b' m' d'] 35;rwa [al_] at h9)
 have FU:=hd_ (hU.later HB.out)
 have FV:=hd_ (hV.later HB.out)
 have FX:=hd_ (hX.later HB.out)
 have FY:=hd_ (hY.later HB.out)
 clear hU hV hX hY
 obtain⟨x0,x1,x2,x3⟩:=am_ X0.out X1.out
 go_enter Tryz.func24,Tryz.ntmps24
 go_wp2_with fail
 refine (HZA _ FU.out FV.out).mono ?_
 rintro e w1 ⟨rfl,bw⟩
 clear x0 x1 x2 x3
 replace HB:=bt_ HB bw
 replace X0:=bl_ X0 bw
 replace X1:=bl_ X1 bw
 replace FU:=FU.l_ bw
 replace FV:=FV.l_ bw
 replace FX:=FX.l_ bw
 replace FY:=FY.l_ bw
 clear bw
 obtain⟨x0,x1,x2,x3⟩:=am_ X0.out X1.out
 go_wp2_with fail
 refine (HZA _ FU.out FV.out).mono ?_
 rintro e w2 ⟨rfl,bw⟩
 clear x0 x1 x2 x3
 replace HB:=bt_ HB bw
 replace X0:=bl_ X0 bw
 replace X1:=bl_ X1 bw
 replace FU:=FU.l_ bw
 replace FV:=FV.l_ bw
 replace FX:=FX.l_ bw
 replace FY:=FY.l_ bw
 clear bw
 obtain⟨x0,x1,x2,x3⟩:=am_ X0.out X1.out
 go_wp2_with fail
 refine (HZB _ FX.out FY.out).mono ?_
 rintro e w3 ⟨rfl,bw⟩
 clear x0 x1 x2 x3
 replace HB:=bt_ HB bw
 replace X0:=bl_ X0 bw
 replace X1:=bl_ X1 bw
 replace FU:=FU.l_ bw
 replace FV:=FV.l_ bw
 replace FX:=FX.l_ bw
 replace FY:=FY.l_ bw
 clear bw
 obtain⟨x0,x1,x2,x3⟩:=am_ X0.out X1.out
 go_wp2
 go_ret
 exact⟨rfl,HB.out⟩
theorem rj_(a:OA_)(n c:Nat)(b:OA_)(m d:Nat)(U V:LR_)(N:Nat)(a':OA_)(n' c':Nat)(b':OA_)(m' d':Nat)(X Y:LR_)(K:Nat)(w:World)(hU:Pv w a n c U N)(hV:Pv w b m d V N)(hX:Pv w a' n' c' X K)(hY:Pv w b' m' d' Y K)(HZA:∀w':World,Pv w' a n c U N→Pv w' b m d V N→Calls Tryz.prog 23 #[.agg #[.slice a n c,.slice b m d]] w' (bi_ (.bool false) w'))(HZB:∀w':World,Pv w' a' n' c' X K→Pv w' b' m' d' Y K→Calls Tryz.prog 23 #[.agg #[.slice a' n' c',.slice b' m' d']] w' (bi_ (.bool true) w')):Calls Tryz.prog 24 #[.agg #[.slice a n c,.slice b m d],.agg #[.slice a' n' c',.slice b' m' d']] w (bi_ (.bool false) w):=by
 have HB:=hd_ (ab_ (aa_ w (.cells #[.slice a n c,.slice b m d] 35)) (aa_ _ (.cells #[.slice a' n' c',.slice b' m' d'] 35)))
 have X0:Hid (((w.alloc (.cells #[.slice a n c,.slice b m d] 35)).alloc (.cells #[.slice a' n' c',.slice b' m' d'] 35)).heap[w.heap.size]? = some (.cells #[.slice a n c,.slice b m d] 35 (0,0))):=hd_ (ac_ (ai_ w _ _) (aa_ _ (.cells #[.slice a' n' c',.slice b' m' d'] 35)))
 have X1:Hid (((w.alloc (.cells #[.slice a n c,.slice b m d] 35)).alloc (.cells #[.slice a' n' c',.slice b' m' d'] 35)).heap[w.heap.size+1]? = some (.cells #[.slice a' n' c',.slice b' m' d'] 35 (0,0))):=hd_ (by have h9:=ai_ (w.alloc (.cells #[.slice a n c,.slice b m d] 35)) #[.slice a' n' c',.slice b' m' d'] 35;rwa [al_] at h9)
 have FU:=hd_ (hU.later HB.out)
 have FV:=hd_ (hV.later HB.out)
 have FX:=hd_ (hX.later HB.out)
 have FY:=hd_ (hY.later HB.out)
 clear hU hV hX hY
 obtain⟨x0,x1,x2,x3⟩:=am_ X0.out X1.out
 go_enter Tryz.func24,Tryz.ntmps24
 go_wp2_with fail
 refine (HZA _ FU.out FV.out).mono ?_
 rintro e w1 ⟨rfl,bw⟩
 clear x0 x1 x2 x3
 replace HB:=bt_ HB bw
 replace X0:=bl_ X0 bw
 replace X1:=bl_ X1 bw
 replace FU:=FU.l_ bw
 replace FV:=FV.l_ bw
 replace FX:=FX.l_ bw
 replace FY:=FY.l_ bw
 clear bw
 obtain⟨x0,x1,x2,x3⟩:=am_ X0.out X1.out
 go_wp2_with fail
 refine (HZB _ FX.out FY.out).mono ?_
 rintro e w2 ⟨rfl,bw⟩
 clear x0 x1 x2 x3
 replace HB:=bt_ HB bw
 replace X0:=bl_ X0 bw
 replace X1:=bl_ X1 bw
 replace FU:=FU.l_ bw
 replace FV:=FV.l_ bw
 replace FX:=FX.l_ bw
 replace FY:=FY.l_ bw
 clear bw
 obtain⟨x0,x1,x2,x3⟩:=am_ X0.out X1.out
 go_wp2_with fail
 refine (HZA _ FU.out FV.out).mono ?_
 rintro e w3 ⟨rfl,bw⟩
 clear x0 x1 x2 x3
 replace HB:=bt_ HB bw
 replace X0:=bl_ X0 bw
 replace X1:=bl_ X1 bw
 replace FU:=FU.l_ bw
 replace FV:=FV.l_ bw
 replace FX:=FX.l_ bw
 replace FY:=FY.l_ bw
 clear bw
 obtain⟨x0,x1,x2,x3⟩:=am_ X0.out X1.out
 go_wp2
 go_ret
 exact⟨rfl,HB.out⟩
theorem qk_(a:OA_)(n c:Nat)(b:OA_)(m d:Nat)(U V:LR_)(N:Nat)(a':OA_)(n' c':Nat)(b':OA_)(m' d':Nat)(X Y:LR_)(K:Nat)(w:World)(hU:Pv w a n c U N)(hV:Pv w b m d V N)(hX:Pv w a' n' c' X K)(hY:Pv w b' m' d' Y K)(P Q:LR_)(r:Bool)(HZA:∀w':World,Pv w' a n c U N→Pv w' b m d V N→Calls Tryz.prog 23 #[.agg #[.slice a n c,.slice b m d]] w' (bi_ (.bool false) w'))(HZB:∀w':World,Pv w' a' n' c' X K→Pv w' b' m' d' Y K→Calls Tryz.prog 23 #[.agg #[.slice a' n' c',.slice b' m' d']] w' (bi_ (.bool false) w'))
 (HM1:∀w':World,Pv w' a n c U N→Pv w' b' m' d' Y K→Calls Tryz.prog 75 #[.slice a n c,.slice b' m' d'] w' (b8_ P w')) (HM2:∀w':World,Pv w' a' n' c' X K→Pv w' b m d V N→Calls Tryz.prog 75 #[.slice a' n' c',.slice b m d] w' (b8_ Q w'))
 (HSA:∀(w':World) (a3:OA_) (n3 c3:Nat) (a4:OA_) (n4 c4:Nat),Rw w' a3 n3 c3 P→Rw w' a4 n4 c4 Q→Calls Tryz.prog 74 #[.slice a3 n3 c3,.slice a4 n4 c4] w' (bi_ (.bool r) w')):Calls Tryz.prog 24 #[.agg #[.slice a n c,.slice b m d],.agg #[.slice a' n' c',.slice b' m' d']] w (bi_ (.bool r) w):=by
 have HB:=hd_ (ab_ (aa_ w (.cells #[.slice a n c,.slice b m d] 35)) (aa_ _ (.cells #[.slice a' n' c',.slice b' m' d'] 35)))
 have X0:Hid (((w.alloc (.cells #[.slice a n c,.slice b m d] 35)).alloc (.cells #[.slice a' n' c',.slice b' m' d'] 35)).heap[w.heap.size]? = some (.cells #[.slice a n c,.slice b m d] 35 (0,0))):=hd_ (ac_ (ai_ w _ _) (aa_ _ (.cells #[.slice a' n' c',.slice b' m' d'] 35)))
 have X1:Hid (((w.alloc (.cells #[.slice a n c,.slice b m d] 35)).alloc (.cells #[.slice a' n' c',.slice b' m' d'] 35)).heap[w.heap.size+1]? = some (.cells #[.slice a' n' c',.slice b' m' d'] 35 (0,0))):=hd_ (by have h9:=ai_ (w.alloc (.cells #[.slice a n c,.slice b m d] 35)) #[.slice a' n' c',.slice b' m' d'] 35;rwa [al_] at h9)
 have FU:=hd_ (hU.later HB.out)
 have FV:=hd_ (hV.later HB.out)
 have FX:=hd_ (hX.later HB.out)
 have FY:=hd_ (hY.later HB.out)
 clear hU hV hX hY
 obtain⟨x0,x1,x2,x3⟩:=am_ X0.out X1.out
 go_enter Tryz.func24,Tryz.ntmps24
 go_wp2_with fail
 refine (HZA _ FU.out FV.out).mono ?_
 rintro e w1 ⟨rfl,bw⟩
 clear x0 x1 x2 x3
 replace HB:=bt_ HB bw
 replace X0:=bl_ X0 bw
 replace X1:=bl_ X1 bw
 replace FU:=FU.l_ bw
 replace FV:=FV.l_ bw
 replace FX:=FX.l_ bw
 replace FY:=FY.l_ bw
 clear bw
 obtain⟨x0,x1,x2,x3⟩:=am_ X0.out X1.out
 go_wp2_with fail
 refine (HZB _ FX.out FY.out).mono ?_
 rintro e w2 ⟨rfl,bw⟩
 clear x0 x1 x2 x3
 replace HB:=bt_ HB bw
 replace X0:=bl_ X0 bw
 replace X1:=bl_ X1 bw
 replace FU:=FU.l_ bw
 replace FV:=FV.l_ bw
 replace FX:=FX.l_ bw
 replace FY:=FY.l_ bw
 clear bw
 obtain⟨x0,x1,x2,x3⟩:=am_ X0.out X1.out
 go_wp2
 clear x0 x1 x2 x3
 replace HB:=bt_ HB (dw_ w2)
 replace X0:Hid (w2.drew.heap[w.heap.size]? = _):=hd_ X0.out
 replace X1:Hid (w2.drew.heap[w.heap.size+1]? = _):=hd_ X1.out
 replace FU:=FU.l_ (dw_ w2)
 replace FV:=FV.l_ (dw_ w2)
 replace FX:=FX.l_ (dw_ w2)
 replace FY:=FY.l_ (dw_ w2)
 have pSn:=am_ X0.out X1.out
 go_region_held3 (fun w'=>w'.cell? ⟨w.heap.size,0,none⟩=some (.slice a n c)∧w'.cell? ⟨w.heap.size,1,none⟩=some (.slice b m d)∧w'.cell? ⟨w.heap.size+1,0,none⟩=some (.slice a' n' c')∧w'.cell? ⟨w.heap.size+1,1,none⟩=some (.slice b' m' d')) (exact pSn)
  (first
  | (go_at_call 75;(first
    | (have pm1:=pM1;refine (HM2 _ FX.out FV.out).mono ?_;rintro e wp2 ⟨a22,n22,c22,rfl,h22,b⟩;replace HB:=bt_ HB b;replace X0:=bl_ X0 b;replace X1:=bl_ X1 b;replace FU:=FU.l_ b;replace FV:=FV.l_ b;replace FX:=FX.l_ b;replace FY:=FY.l_ b;replace P3:=P3.l_ b;have P4:=hd_ h22;clear h22;clear b;clear pSn;have pSn:=am_ X0.out X1.out;clear pM1 pm1;have pM2:=True.intro)
    | (refine (HM1 _ FU.out FY.out).mono ?_;rintro e wp1 ⟨a21,n21,c21,rfl,h21,b⟩;replace HB:=bt_ HB b;replace X0:=bl_ X0 b;replace X1:=bl_ X1 b;replace FU:=FU.l_ b;replace FV:=FV.l_ b;replace FX:=FX.l_ b;replace FY:=FY.l_ b;have P3:=hd_ h21;clear h21;clear b;clear pSn;have pSn:=am_ X0.out X1.out;have pM1:=True.intro)))
  | (go_at_call 74;(first
    | (have pm2:=pM2;refine (HSA _ _ _ _ _ _ _ P3.out P4.out).mono ?_;rintro e wp3 ⟨rfl,b⟩;replace HB:=bt_ HB b;replace X0:=bl_ X0 b;replace X1:=bl_ X1 b;replace FU:=FU.l_ b;replace FV:=FV.l_ b;replace FX:=FX.l_ b;replace FY:=FY.l_ b;replace P3:=P3.l_ b;clear P4;clear b;clear pSn;have pSn:=am_ X0.out X1.out;clear pM2 pm2;have pM3:=True.intro))))
 go_wp2
 go_ret
 exact⟨rfl,HB.out⟩
theorem ratf_same(S:PolySaid)(a:OA_)(n c:Nat)(b:OA_)(m d:Nat)(u v:LR_)(h s:Nat)(a':OA_)(n' c':Nat)(b':OA_)(m' d':Nat)(x y:LR_)(k t:Nat)(w:World)(hA:Fv w a n c b m d u v h s)(hB:Fv w a' n' c' b' m' d' x y k t)(hk:Fok h s)(hk2:Fok k t)(hb:(h+k+1) * (s+t+20)≤1900000000):Calls Tryz.prog 24 #[.agg #[.slice a n c,.slice b m d],.agg #[.slice a' n' c',.slice b' m' d']] w (bi_ (.bool (decide (u=x∧v=y))) w):=by
 obtain⟨U,V,hU,hV,hf,hz,_⟩:=hA
 obtain⟨X,Y,hX,hY,hg,hy,_⟩:=hB
 obtain⟨s1,s2⟩:=on_ hk
 obtain⟨t1,t2⟩:=on_ hk2
 have lU:=hz.lu
 have lV:=hz.lv
 have lX:=hy.lu
 have lY:=hy.lv
 rw[hU.len] at lU
 rw[hV.len] at lV
 rw[hX.len] at lX
 rw[hY.len] at lY
 have HZA:=fun (w':World) (g1:Pv w' a n c U (s+2)) (g2:Pv w' b m d V (s+2))=>lj_ S a n c b m d U V (s+2) w' g1 g2 (by omega) (by omega) (by omega)
 have HZB:=fun (w':World) (g1:Pv w' a' n' c' X (t+2)) (g2:Pv w' b' m' d' Y (t+2))=>lj_ S a' n' c' b' m' d' X Y (t+2) w' g1 g2 (by omega) (by omega) (by omega)
 by_cases h1:plen U=0∨plen V=0
 ·have hu:=(hf.zero h1).1
  have hv:=(hf.zero h1).2
  have hr:decide (u=x∧v=y)=decide (plen X=0∨plen Y=0):=decide_eq_decide.2 ⟨fun e=>hg.none_iff.2 (by rw[←e.1,hu]),fun e=>by have:=hg.zero e;exact⟨by rw[hu,this.1],by rw[hv,this.2]⟩⟩
  rw[hr]
  exact so_ a n c b m d U V (s+2) a' n' c' b' m' d' X Y (t+2) w hU hV hX hY _ (by rw[decide_eq_true h1] at HZA;exact HZA) HZB
 ·by_cases h2:plen X=0∨plen Y=0
  ·have hx:=(hg.zero h2).1
   rw[decide_eq_false (fun e=>h1 (hf.none_iff.2 (by rw[e.1,hx])):¬(u=x∧v=y))]
   exact rj_ a n c b m d U V (s+2) a' n' c' b' m' d' X Y (t+2) w hU hV hX hY (by rw[decide_eq_false h1] at HZA;exact HZA) (by rw[decide_eq_true h2] at HZB;exact HZB)
  ·have h3:plen V≠0:=fun e=>h1 (.inr e)
   have h4:plen Y≠0:=fun e=>h2 (.inr e)
   have hr:decide (u=x∧v=y)=decide (ah_ (ah_ (pmul U Y))=ah_ (ah_ (pmul X V))):=decide_eq_decide.2 ⟨fun e=>by rw[a9_,a9_];exact bu_ ((hf.same_iff hg h3 h4).2 e),fun e=>(hf.same_iff hg h3 h4).1 (by rw[a9_,a9_] at e;exact pnorm_iff.1 e)⟩
   rw[hr]
   have hn1:(n+1) * (s+2+(t+2)+8)≤1900000000:=Nat.le_trans (Nat.mul_le_mul (by omega) (by omega)) hb
   have hn2:(n'+1) * (t+2+(s+2)+8)≤1900000000:=Nat.le_trans (Nat.mul_le_mul (by omega) (by omega)) hb
   have q1:∀z∈ah_ (pmul U Y),qlen z≤1900000000:=fun z hz9=>by
    have e1:=ee_ (A:=s+2) (B:=t+2) (by omega) (by omega) hz.qlen hy.swap.qlen z hz9
    have e2:U.length * (s+2+(t+2)+3)≤n * (s+2+(t+2)+8):=Nat.mul_le_mul (by rw[hU.len];exact Nat.le_refl _) (by omega)
    rw[Nat.add_mul,Nat.one_mul] at hn1
    omega
   have q2:∀z∈ah_ (pmul X V),qlen z≤1900000000:=fun z hz9=>by
    have e1:=ee_ (A:=t+2) (B:=s+2) (by omega) (by omega) hy.qlen hz.swap.qlen z hz9
    have e2:X.length * (t+2+(s+2)+3)≤n' * (t+2+(s+2)+8):=Nat.mul_le_mul (by rw[hX.len];exact Nat.le_refl _) (by omega)
    rw[Nat.add_mul,Nat.one_mul] at hn2
    omega
   have l1:(ah_ (pmul U Y)).length≤300:=by
    have:=ax_ (pmul U Y);have:=b1_ U Y;have:=hU.len;have:=hY.len;omega
   have l2:(ah_ (pmul X V)).length≤300:=by
    have:=ax_ (pmul X V);have:=b1_ X V;have:=hX.len;have:=hV.len;omega
   exact qk_ a n c b m d U V (s+2) a' n' c' b' m' d' X Y (t+2) w hU hV hX hY (ah_ (pmul U Y)) (ah_ (pmul X V)) _ (by rw[decide_eq_false h1] at HZA;exact HZA) (by rw[decide_eq_false h2] at HZB;exact HZB) (fun w' g1 g2=>nb_ S g1 g2 (by omega) (by omega) hn1) (fun w' g1 g2=>nb_ S g1 g2 (by omega) (by omega) hn2) (fun w' a3 n3 c3 a4 n4 c4 g1 g2=>same_pv S (Pv.right g1 q1) (Pv.right g2 q2) (by rw[←g1.len];exact l1) (by rw[←g2.len];exact l2) (Nat.le_refl _) (Nat.le_refl _))
theorem p1_(S:PolySaid)(FS:FracSaid)(a:OA_)(n c:Nat)(b:OA_)(m d:Nat)(u v:LR_)(h s:Nat)(w:World)(hF:Fv w a n c b m d u v h s)(hs:s+2≤900000000)(hh:h≤50):Calls Tryz.prog 82 #[.agg #[.slice a n c,.slice b m d]] w (LstH (ag_ (-1) u) v h s w):=by
 obtain⟨U,V,hU,hV,hf,hz,hz2⟩:=hF
 refine (sa_ S FS a n c b m d U V (s+2) w hU hV hz.qlen (by omega) hs (by rw[←hU.len];have:=hz.lu;omega)).mono fun e w' h9=>?_
 obtain⟨a1,n1,c1,b1,m1,d1,g1,g2,g3,g4⟩:=h9
 exact⟨a1,n1,c1,b1,m1,d1,g1,⟨_,_,g2,g3,hf.minus.of (ar_ _).symm (peq.refl _),hz.minus.same (ar_ _).symm (peq.refl _) (Nat.le_trans (ax_ _) (by rw[be_];exact hz.lu)) hz.lv,hz2.minus⟩,g4⟩
theorem ratf_neg(S:PolySaid)(FS:FracSaid)(a:OA_)(n c:Nat)(b:OA_)(m d:Nat)(u v:LR_)(h s:Nat)(w:World)(hA:Fv w a n c b m d u v h s)(hk:Fok (h+2) (s+30)):Calls Tryz.prog 33 #[.agg #[.slice a n c,.slice b m d]] w (LstE (ag_ (-1) u) v w):=by
 obtain⟨s1,s2⟩:=on_ hk
 have HTU:∀w':World,Fv w' a n c b m d u v h s→Calls Tryz.prog 82 #[.agg #[.slice a n c,.slice b m d]] w' (LstH (ag_ (-1) u) v h s w'):=fun w' g=>p1_ S FS a n c b m d u v h s w' g (by omega) (by omega)
 have HNO:∀(w':World) (a1:OA_) (n1 c1:Nat) (b1:OA_) (m1 d1:Nat),Fv w' a1 n1 c1 b1 m1 d1 (ag_ (-1) u) v h s→Calls Tryz.prog 20 #[.agg #[.slice a1 n1 c1,.slice b1 m1 d1]] w' (LstE (ag_ (-1) u) v w'):=fun w' a1 n1 c1 b1 m1 d1 g=>fa_ S FS a1 n1 c1 b1 m1 d1 _ v (h+2) s w' (g.mono (by omega) (Nat.le_refl _)) (hk.less (by omega) (by omega) (by omega))
 generalize ag_ (-1) u=ru at *
 have HB:=hd_ (ab_ (aa_ w (.cells #[.slice a n c,.slice b m d] 35)) (aa_ _ (.cells #[.slice none 0 0,.slice none 0 0] 35)))
 have X0:Hid (((w.alloc (.cells #[.slice a n c,.slice b m d] 35)).alloc (.cells #[.slice none 0 0,.slice none 0 0] 35)).heap[w.heap.size]? = some (.cells #[.slice a n c,.slice b m d] 35 (0,0))):=hd_ (ac_ (ai_ w _ _) (aa_ _ (.cells #[.slice none 0 0,.slice none 0 0] 35)))
 have R0:Hid (((w.alloc (.cells #[.slice a n c,.slice b m d] 35)).alloc (.cells #[.slice none 0 0,.slice none 0 0] 35)).heap[w.heap.size+1]? = some (.cells #[.slice none 0 0,.slice none 0 0] 35 (0,0))):=hd_ (by have h9:=ai_ (w.alloc (.cells #[.slice a n c,.slice b m d] 35)) #[.slice none 0 0,.slice none 0 0] 35;rwa [al_] at h9)
 have FA:=hd_ (hA.later HB.out)
 obtain⟨x0,x1⟩:=a0_ X0.out
 clear hA hk s1 s2
 go_enter Tryz.func33,Tryz.ntmps33
 go_wp2_with fail
 refine (HTU _ FA.out).mono ?_
 rintro e w1 ⟨a1,n1,c1,b1,m1,d1,rfl,h1,bw⟩
 clear x0 x1 HTU FA X0
 replace HB:=bt_ HB bw
 replace R0:=bl_ R0 bw
 have FT:=hd_ h1
 clear bw h1
 go_wp2_with fail
 refine (HNO _ _ _ _ _ _ _ FT.out).mono ?_
 rintro e w2 ⟨a2,n2,c2,b2,m2,d2,rfl,h2,g2,b⟩
 replace HB:=bt_ HB b
 replace R0:=bl_ R0 b
 have P9:=hd_ h2
 have Q9:=hd_ g2
 clear b h2 g2 FT HNO
 obtain⟨r0,r1⟩:=a0_ R0.out
 have e0:=ad_ R0.out 0
 have e1:=ad_ R0.out 1
 have R9:=hd_ (a4_ R0.out (.slice a2 n2 c2) (.slice b2 m2 d2))
 replace P9:=hd_ (P9.out.boxed R0.out (.slice a2 n2 c2) (.slice b2 m2 d2))
 replace Q9:=hd_ (Q9.out.boxed R0.out (.slice a2 n2 c2) (.slice b2 m2 d2))
 have G9:=hd_ (an_ HB.out (show w.heap.size≤w.heap.size+1 by omega) (.slice a2 n2 c2) (.slice b2 m2 d2))
 go_wp2
 refine bodyPost_ret (results_cell_row Tryz.results33 _ _ (w.heap.size+1) 35 #[.slice a2 n2 c2,.slice b2 m2 d2] (0,0) _ rfl R9.out Tryz.underlying35 rfl (by kernel_rfl)) rfl ?_
 exact⟨a2,n2,c2,b2,m2,d2,rfl,P9.out,Q9.out,G9.out⟩
theorem ratf_sub(S:PolySaid)(FS:FracSaid)(a:OA_)(n c:Nat)(b:OA_)(m d:Nat)(u v:LR_)(h s:Nat)(a':OA_)(n' c':Nat)(b':OA_)(m' d':Nat)(x y:LR_)(k t:Nat)(w:World)(hA:Fv w a n c b m d u v h s)(hB:Fv w a' n' c' b' m' d' x y k t)(hk:Fok2 h s k t):Calls Tryz.prog 37 #[.agg #[.slice a n c,.slice b m d],.agg #[.slice a' n' c',.slice b' m' d']] w (LstF (psub (pmul u y) (pmul x v)) (pmul v y) w):=by
 obtain⟨s1,s2⟩:=on_ hk.1
 have HTU:∀w':World,Fv w' a' n' c' b' m' d' x y k t→Calls Tryz.prog 82 #[.agg #[.slice a' n' c',.slice b' m' d']] w' (LstH (ag_ (-1) x) y k t w'):=fun w' g=>p1_ S FS a' n' c' b' m' d' x y k t w' g (by omega) (by omega)
 have HAD:∀(w':World) (a1:OA_) (n1 c1:Nat) (b1:OA_) (m1 d1:Nat),Fv w' a n c b m d u v h s→Fv w' a1 n1 c1 b1 m1 d1 (ag_ (-1) x) y k t→Calls Tryz.prog 35 #[.agg #[.slice a n c,.slice b m d],.agg #[.slice a1 n1 c1,.slice b1 m1 d1]] w' (LstF (psub (pmul u y) (pmul x v)) (pmul v y) w'):=fun w' a1 n1 c1 b1 m1 d1 g1 g2=>(uf_ S FS a n c b m d u v h s a1 n1 c1 b1 m1 d1 _ y k t w' g1 g2 hk).mono fun e w2 h9=>by
  obtain⟨a4,n4,c4,x4,b4,m4,d4,y4,k1,k2,k3,k4,k5⟩:=h9
  exact⟨a4,n4,c4,x4,b4,m4,d4,y4,k1,k2,k3,k4.of (ap_ fun z=>by rw[a2_,cj_,ae_,ae_,ae_,au_];grind) (peq.refl _),k5⟩
 generalize ag_ (-1) x=rx9 at *
 have HB:=hd_ (ab_ (ab_ (aa_ w (.cells #[.slice a n c,.slice b m d] 35)) (aa_ _ (.cells #[.slice a' n' c',.slice b' m' d'] 35))) (aa_ _ (.cells #[.slice none 0 0,.slice none 0 0] 35)))
 have X0:Hid ((((w.alloc (.cells #[.slice a n c,.slice b m d] 35)).alloc (.cells #[.slice a' n' c',.slice b' m' d'] 35)).alloc (.cells #[.slice none 0 0,.slice none 0 0] 35)).heap[w.heap.size]? = some (.cells #[.slice a n c,.slice b m d] 35 (0,0))):=hd_ (ac_ (ac_ (ai_ w _ _) (aa_ _ (.cells #[.slice a' n' c',.slice b' m' d'] 35))) (aa_ _ (.cells #[.slice none 0 0,.slice none 0 0] 35)))
 have X1:Hid ((((w.alloc (.cells #[.slice a n c,.slice b m d] 35)).alloc (.cells #[.slice a' n' c',.slice b' m' d'] 35)).alloc (.cells #[.slice none 0 0,.slice none 0 0] 35)).heap[w.heap.size+1]? = some (.cells #[.slice a' n' c',.slice b' m' d'] 35 (0,0))):=hd_ (ac_ (by have h9:=ai_ (w.alloc (.cells #[.slice a n c,.slice b m d] 35)) #[.slice a' n' c',.slice b' m' d'] 35;rwa [al_] at h9) (aa_ _ (.cells #[.slice none 0 0,.slice none 0 0] 35)))
 have R0:Hid ((((w.alloc (.cells #[.slice a n c,.slice b m d] 35)).alloc (.cells #[.slice a' n' c',.slice b' m' d'] 35)).alloc (.cells #[.slice none 0 0,.slice none 0 0] 35)).heap[w.heap.size+1+1]? = some (.cells #[.slice none 0 0,.slice none 0 0] 35 (0,0))):=hd_ (by have h9:=ai_ ((w.alloc (.cells #[.slice a n c,.slice b m d] 35)).alloc (.cells #[.slice a' n' c',.slice b' m' d'] 35)) #[.slice none 0 0,.slice none 0 0] 35;rwa [al_,al_] at h9)
 have FA:=hd_ (hA.later HB.out)
 have FB:=hd_ (hB.later HB.out)
 clear hA hB hk s1 s2
 go_enter Tryz.func37,Tryz.ntmps37
 go_wp2
 generalize (((w.alloc (.cells #[.slice a n c,.slice b m d] 35)).alloc (.cells #[.slice a' n' c',.slice b' m' d'] 35)).alloc (.cells #[.slice none 0 0,.slice none 0 0] 35))=W at *
 replace HB:=bt_ HB (dw_ W)
 replace X0:Hid (W.drew.heap[w.heap.size]? = _):=hd_ X0.out
 replace X1:Hid (W.drew.heap[w.heap.size+1]? = _):=hd_ X1.out
 replace R0:Hid (W.drew.heap[w.heap.size+1+1]? = some (.cells #[.slice none 0 0,.slice none 0 0] 35 (0,0))):=hd_ R0.out
 replace FA:=FA.l_ (dw_ W)
 replace FB:=FB.l_ (dw_ W)
 have pSn:=am_ X0.out X1.out
 go_region_held3 (fun w'=>w'.cell? ⟨w.heap.size,0,none⟩=some (.slice a n c)∧w'.cell? ⟨w.heap.size,1,none⟩=some (.slice b m d)∧w'.cell? ⟨w.heap.size+1,0,none⟩=some (.slice a' n' c')∧w'.cell? ⟨w.heap.size+1,1,none⟩=some (.slice b' m' d')) (first | exact pSn | exact pSb _ _)
  (first
  | (go_at_call 82;(first
    | (refine (HTU _ FB.out).mono ?_;rintro e wp1 ⟨a1,n1,c1,b1,m1,d1,rfl,h1,b⟩;replace HB:=bt_ HB b;replace X0:=bl_ X0 b;replace X1:=bl_ X1 b;replace R0:=bl_ R0 b;replace FA:=FA.l_ b;replace FB:=FB.l_ b;have FB9:=hd_ h1;clear h1;clear b;clear pSn;have pSn:=am_ X0.out X1.out;have pM1:=True.intro)))
  | (go_at_call 35;(first
    | (have pm1:=pM1;refine (HAD _ _ _ _ _ _ _ FA.out FB9.out).mono ?_;rintro e wp2 ⟨a2,n2,c2,pu,b2,m2,d2,pv,rfl,h2,g2,k2,b⟩;replace HB:=bt_ HB b;replace X0:=bl_ X0 b;replace X1:=bl_ X1 b;replace R0:=bl_ R0 b;replace FA:=FA.l_ b;replace FB:=FB.l_ b;clear FB9;have P9:=hd_ h2;have Q9:=hd_ g2;have KF:=hd_ k2;clear h2 g2 k2;obtain⟨r0,r1⟩:=a0_ R0.out;have e0:=ad_ R0.out 0;have e1:=ad_ R0.out 1;have pSb:=fun u v=>am_ (bh_ (g:=w.heap.size+1+1) X0.out (by omega) u v) (bh_ (g:=w.heap.size+1+1) X1.out (by omega) u v);clear b;clear pSn;have pSn:=am_ X0.out X1.out;clear pM1 pm1;have pM2:=True.intro))))
 have R9:=hd_ (a4_ R0.out (.slice a2 n2 c2) (.slice b2 m2 d2))
 replace P9:=hd_ (P9.out.boxed R0.out (.slice a2 n2 c2) (.slice b2 m2 d2))
 replace Q9:=hd_ (Q9.out.boxed R0.out (.slice a2 n2 c2) (.slice b2 m2 d2))
 have G9:=hd_ (an_ HB.out (show w.heap.size≤w.heap.size+1+1 by omega) (.slice a2 n2 c2) (.slice b2 m2 d2))
 go_wp2
 refine bodyPost_ret (results_cell_row Tryz.results37 _ _ (w.heap.size+1+1) 35 #[.slice a2 n2 c2,.slice b2 m2 d2] (0,0) _ rfl R9.out Tryz.underlying35 rfl (by kernel_rfl)) rfl ?_
 exact⟨a2,n2,c2,pu,b2,m2,d2,pv,rfl,P9.out,Q9.out,KF.out,G9.out⟩
end Go.Proofs.YtocebjbjnfammaaGreat
