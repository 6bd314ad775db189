import Derived.Test.YtocebjbjnfammaaGreatSG14
import Derived.Test.YtocebjbjnfammaaGreatSG13
import Derived.Test.YtocebjbjnfammaaGreatSG6
import Derived.Test.YtocebjbjnfammaaGreatSG1
set_option maxRecDepth 4096
set_option maxHeartbeats 16000000
namespace Go.Proofs.YtocebjbjnfammaaGreat
open Go.RowKit
theorem fok26:Fok 2 6:=⟨by decide,by decide,by decide⟩
theorem n8_(a1:OA_)(n1 c1:Nat)(b1:OA_)(m1 d1:Nat)(e:Int)(w:World)(he:e < -8) :
 Calls Tryz.prog 32 #[.agg #[.slice a1 n1 c1,.slice b1 m1 d1],.int .i64 e] w (LstFV [] [1] (.bool false) w):=by
 obtain⟨z0,hz0⟩:∃q:Rat,((0:Int):Rat)=q:=⟨_,rfl⟩
 have lz:qlen z0≤2:=by rw[←hz0];exact br_ (by decide)
 have HIK:∀w':World,Calls Tryz.prog 15 #[.int .i64 0] w' (LstQ z0 w'):=fun w'=>hz0▸cz_ 0 w' (by decide)
 have hz00:z0=0:=by rw[←hz0];rfl
 have HOF:∀(w':World) (a2:OA_) (n2 c2:Nat) (b2:OA_) (m2 d2:Nat),Wd w' a2 n2 c2 (dg z0.num.natAbs)→Wd w' b2 m2 d2 (dg z0.den)→Calls Tryz.prog 14 #[(frV (zneg z0.num) a2 n2 c2 b2 m2 d2)] w' (LstF [] [1] w'):=fun w' a2 n2 c2 b2 m2 d2 g1 g2=>(gd_ z0 a2 n2 c2 b2 m2 d2 2 w' g1 g2 lz fok26 (Nat.le_refl 2)).mono fun e w2 h9=>by
  obtain⟨a4,n4,c4,x,b4,m4,d4,y,k1,k2,k3,k4,k5⟩:=h9
  exact⟨a4,n4,c4,x,b4,m4,d4,y,k1,k2,k3,k4.of (by rw[hz00];exact ap_ fun z=>by show _+z * (0+z * 0)=0;grind) (peq.refl _),k5⟩
 clear hz00
 clear hz0 lz
 have HB:=hd_ (ab_ (aa_ w (.cells #[.slice a1 n1 c1,.slice b1 m1 d1] 24)) (aa_ _ (.cells #[.slice none 0 0,.slice none 0 0] 24)))
 have X0:Hid (((w.alloc (.cells #[.slice a1 n1 c1,.slice b1 m1 d1] 24)).alloc (.cells #[.slice none 0 0,.slice none 0 0] 24)).heap[w.heap.size]? = some (.cells #[.slice a1 n1 c1,.slice b1 m1 d1] 24 (0,0))):=hd_ (ac_ (ai_ w _ _) (aa_ _ (.cells #[.slice none 0 0,.slice none 0 0] 24)))
 have R0:Hid (((w.alloc (.cells #[.slice a1 n1 c1,.slice b1 m1 d1] 24)).alloc (.cells #[.slice none 0 0,.slice none 0 0] 24)).heap[w.heap.size+1]? = some (.cells #[.slice none 0 0,.slice none 0 0] 24 (0,0))):=hd_ (by have h9:=ai_ (w.alloc (.cells #[.slice a1 n1 c1,.slice b1 m1 d1] 24)) #[.slice none 0 0,.slice none 0 0] 24;rwa [al_] at h9)
 go_enter Tryz.func32,Tryz.ntmps32
 go_wp2_with fail
 refine (HIK _).mono ?_
 rintro e1 w3 ⟨a5,n5,c5,b5,m5,d5,rfl,h5,g5,b⟩
 replace HB:=bt_ HB b
 replace X0:=bl_ X0 b
 replace R0:=bl_ R0 b
 have Z5:=hd_ h5
 have Y5:=hd_ g5
 clear h5 g5 b
 unfold frV
 go_wp2_with fail
 refine (HOF _ _ _ _ _ _ _ Z5.out Y5.out).mono ?_
 rintro e1 w4 ⟨a4,n4,c4,u4,b4,m4,d4,v4,rfl,h4,g4,k4,b⟩
 replace HB:=bt_ HB b
 replace X0:=bl_ X0 b
 replace R0:=bl_ R0 b
 have F4:=hd_ h4
 have G4:=hd_ g4
 have K4:=hd_ k4
 clear h4 g4 k4 b
 clear Z5 Y5
 have R9:=hd_ (a4_ R0.out (.slice a4 n4 c4) (.slice b4 m4 d4))
 have P9:=hd_ (F4.out.boxed R0.out (.slice a4 n4 c4) (.slice b4 m4 d4))
 have Q9:=hd_ (G4.out.boxed R0.out (.slice a4 n4 c4) (.slice b4 m4 d4))
 have G9:=hd_ (an_ HB.out (show w.heap.size≤w.heap.size+1 by omega) (.slice a4 n4 c4) (.slice b4 m4 d4))
 obtain⟨r0,r1⟩:=a0_ R0.out
 have e0:=ad_ R0.out 0
 have e1:=ad_ R0.out 1
 go_wp2
 refine bodyPost_ret (bb_ Tryz.results32 _ _ (w.heap.size+1) 24 #[.slice a4 n4 c4,.slice b4 m4 d4] (0,0) _ rfl R9.out Tryz.underlying24 rfl (by kernel_rfl)) rfl ?_
 exact⟨a4,n4,c4,u4,b4,m4,d4,v4,rfl,P9.out,Q9.out,K4.out,G9.out⟩
theorem mx_(a1:OA_)(n1 c1:Nat)(b1:OA_)(m1 d1:Nat)(e:Int)(w:World)(he:8 < e) :
 Calls Tryz.prog 32 #[.agg #[.slice a1 n1 c1,.slice b1 m1 d1],.int .i64 e] w (LstFV [] [1] (.bool false) w):=by
 obtain⟨z0,hz0⟩:∃q:Rat,((0:Int):Rat)=q:=⟨_,rfl⟩
 have lz:qlen z0≤2:=by rw[←hz0];exact br_ (by decide)
 have HIK:∀w':World,Calls Tryz.prog 15 #[.int .i64 0] w' (LstQ z0 w'):=fun w'=>hz0▸cz_ 0 w' (by decide)
 have hz00:z0=0:=by rw[←hz0];rfl
 have HOF:∀(w':World) (a2:OA_) (n2 c2:Nat) (b2:OA_) (m2 d2:Nat),Wd w' a2 n2 c2 (dg z0.num.natAbs)→Wd w' b2 m2 d2 (dg z0.den)→Calls Tryz.prog 14 #[(frV (zneg z0.num) a2 n2 c2 b2 m2 d2)] w' (LstF [] [1] w'):=fun w' a2 n2 c2 b2 m2 d2 g1 g2=>(gd_ z0 a2 n2 c2 b2 m2 d2 2 w' g1 g2 lz fok26 (Nat.le_refl 2)).mono fun e w2 h9=>by
  obtain⟨a4,n4,c4,x,b4,m4,d4,y,k1,k2,k3,k4,k5⟩:=h9
  exact⟨a4,n4,c4,x,b4,m4,d4,y,k1,k2,k3,k4.of (by rw[hz00];exact ap_ fun z=>by show _+z * (0+z * 0)=0;grind) (peq.refl _),k5⟩
 clear hz00
 clear hz0 lz
 have HB:=hd_ (ab_ (aa_ w (.cells #[.slice a1 n1 c1,.slice b1 m1 d1] 24)) (aa_ _ (.cells #[.slice none 0 0,.slice none 0 0] 24)))
 have X0:Hid (((w.alloc (.cells #[.slice a1 n1 c1,.slice b1 m1 d1] 24)).alloc (.cells #[.slice none 0 0,.slice none 0 0] 24)).heap[w.heap.size]? = some (.cells #[.slice a1 n1 c1,.slice b1 m1 d1] 24 (0,0))):=hd_ (ac_ (ai_ w _ _) (aa_ _ (.cells #[.slice none 0 0,.slice none 0 0] 24)))
 have R0:Hid (((w.alloc (.cells #[.slice a1 n1 c1,.slice b1 m1 d1] 24)).alloc (.cells #[.slice none 0 0,.slice none 0 0] 24)).heap[w.heap.size+1]? = some (.cells #[.slice none 0 0,.slice none 0 0] 24 (0,0))):=hd_ (by have h9:=ai_ (w.alloc (.cells #[.slice a1 n1 c1,.slice b1 m1 d1] 24)) #[.slice none 0 0,.slice none 0 0] 24;rwa [al_] at h9)
 go_enter Tryz.func32,Tryz.ntmps32
 go_wp2_with fail
 refine (HIK _).mono ?_
 rintro e1 w3 ⟨a5,n5,c5,b5,m5,d5,rfl,h5,g5,b⟩
 replace HB:=bt_ HB b
 replace X0:=bl_ X0 b
 replace R0:=bl_ R0 b
 have Z5:=hd_ h5
 have Y5:=hd_ g5
 clear h5 g5 b
 unfold frV
 go_wp2_with fail
 refine (HOF _ _ _ _ _ _ _ Z5.out Y5.out).mono ?_
 rintro e1 w4 ⟨a4,n4,c4,u4,b4,m4,d4,v4,rfl,h4,g4,k4,b⟩
 replace HB:=bt_ HB b
 replace X0:=bl_ X0 b
 replace R0:=bl_ R0 b
 have F4:=hd_ h4
 have G4:=hd_ g4
 have K4:=hd_ k4
 clear h4 g4 k4 b
 clear Z5 Y5
 have R9:=hd_ (a4_ R0.out (.slice a4 n4 c4) (.slice b4 m4 d4))
 have P9:=hd_ (F4.out.boxed R0.out (.slice a4 n4 c4) (.slice b4 m4 d4))
 have Q9:=hd_ (G4.out.boxed R0.out (.slice a4 n4 c4) (.slice b4 m4 d4))
 have G9:=hd_ (an_ HB.out (show w.heap.size≤w.heap.size+1 by omega) (.slice a4 n4 c4) (.slice b4 m4 d4))
 obtain⟨r0,r1⟩:=a0_ R0.out
 have e0:=ad_ R0.out 0
 have e1:=ad_ R0.out 1
 go_wp2
 refine bodyPost_ret (bb_ Tryz.results32 _ _ (w.heap.size+1) 24 #[.slice a4 n4 c4,.slice b4 m4 d4] (0,0) _ rfl R9.out Tryz.underlying24 rfl (by kernel_rfl)) rfl ?_
 exact⟨a4,n4,c4,u4,b4,m4,d4,v4,rfl,P9.out,Q9.out,K4.out,G9.out⟩
theorem m0_(a1:OA_)(n1 c1:Nat)(u1:LR_)(b1:OA_)(m1 d1:Nat)(e:Int)(w:World)(ha1:Rw w a1 n1 c1 u1)(hu:u1=[])(he:e < 0)(he8 : -8≤e) :
 Calls Tryz.prog 32 #[.agg #[.slice a1 n1 c1,.slice b1 m1 d1],.int .i64 e] w (LstFV [] [1] (.bool false) w):=by
 obtain⟨z0,hz0⟩:∃q:Rat,((0:Int):Rat)=q:=⟨_,rfl⟩
 have lz:qlen z0≤2:=by rw[←hz0];exact br_ (by decide)
 have HIK:∀w':World,Calls Tryz.prog 15 #[.int .i64 0] w' (LstQ z0 w'):=fun w'=>hz0▸cz_ 0 w' (by decide)
 have hz00:z0=0:=by rw[←hz0];rfl
 have HOF:∀(w':World) (a2:OA_) (n2 c2:Nat) (b2:OA_) (m2 d2:Nat),Wd w' a2 n2 c2 (dg z0.num.natAbs)→Wd w' b2 m2 d2 (dg z0.den)→Calls Tryz.prog 14 #[(frV (zneg z0.num) a2 n2 c2 b2 m2 d2)] w' (LstF [] [1] w'):=fun w' a2 n2 c2 b2 m2 d2 g1 g2=>(gd_ z0 a2 n2 c2 b2 m2 d2 2 w' g1 g2 lz fok26 (Nat.le_refl 2)).mono fun e w2 h9=>by
  obtain⟨a4,n4,c4,x,b4,m4,d4,y,k1,k2,k3,k4,k5⟩:=h9
  exact⟨a4,n4,c4,x,b4,m4,d4,y,k1,k2,k3,k4.of (by rw[hz00];exact ap_ fun z=>by show _+z * (0+z * 0)=0;grind) (peq.refl _),k5⟩
 clear hz00
 clear hz0 lz
 have hn0:((n1:Int) == 0)=true:=by
  have h9:=ha1.len
  rw[hu] at h9
  have h8:n1=0:=h9.symm
  rw[h8];rfl
 clear ha1 hu
 have HB:=hd_ (ab_ (aa_ w (.cells #[.slice a1 n1 c1,.slice b1 m1 d1] 24)) (aa_ _ (.cells #[.slice none 0 0,.slice none 0 0] 24)))
 have X0:Hid (((w.alloc (.cells #[.slice a1 n1 c1,.slice b1 m1 d1] 24)).alloc (.cells #[.slice none 0 0,.slice none 0 0] 24)).heap[w.heap.size]? = some (.cells #[.slice a1 n1 c1,.slice b1 m1 d1] 24 (0,0))):=hd_ (ac_ (ai_ w _ _) (aa_ _ (.cells #[.slice none 0 0,.slice none 0 0] 24)))
 have R0:Hid (((w.alloc (.cells #[.slice a1 n1 c1,.slice b1 m1 d1] 24)).alloc (.cells #[.slice none 0 0,.slice none 0 0] 24)).heap[w.heap.size+1]? = some (.cells #[.slice none 0 0,.slice none 0 0] 24 (0,0))):=hd_ (by have h9:=ai_ (w.alloc (.cells #[.slice a1 n1 c1,.slice b1 m1 d1] 24)) #[.slice none 0 0,.slice none 0 0] 24;rwa [al_] at h9)
 go_enter Tryz.func32,Tryz.ntmps32
 obtain⟨k0,k1⟩:=a0_ X0.out
 go_wp2_with fail
 refine (jy_ _ _ _ _ _ _ true _ hn0).mono ?_
 rintro e2 w2 ⟨rfl,b⟩
 clear k0 k1
 replace HB:=bt_ HB b
 replace X0:=bl_ X0 b
 replace R0:=bl_ R0 b
 clear b hn0
 go_wp2_with fail
 refine (HIK _).mono ?_
 rintro e1 w3 ⟨a5,n5,c5,b5,m5,d5,rfl,h5,g5,b⟩
 replace HB:=bt_ HB b
 replace X0:=bl_ X0 b
 replace R0:=bl_ R0 b
 have Z5:=hd_ h5
 have Y5:=hd_ g5
 clear h5 g5 b
 unfold frV
 go_wp2_with fail
 refine (HOF _ _ _ _ _ _ _ Z5.out Y5.out).mono ?_
 rintro e1 w4 ⟨a4,n4,c4,u4,b4,m4,d4,v4,rfl,h4,g4,k4,b⟩
 replace HB:=bt_ HB b
 replace X0:=bl_ X0 b
 replace R0:=bl_ R0 b
 have F4:=hd_ h4
 have G4:=hd_ g4
 have K4:=hd_ k4
 clear h4 g4 k4 b
 clear Z5 Y5
 have R9:=hd_ (a4_ R0.out (.slice a4 n4 c4) (.slice b4 m4 d4))
 have P9:=hd_ (F4.out.boxed R0.out (.slice a4 n4 c4) (.slice b4 m4 d4))
 have Q9:=hd_ (G4.out.boxed R0.out (.slice a4 n4 c4) (.slice b4 m4 d4))
 have G9:=hd_ (an_ HB.out (show w.heap.size≤w.heap.size+1 by omega) (.slice a4 n4 c4) (.slice b4 m4 d4))
 obtain⟨r0,r1⟩:=a0_ R0.out
 have e0:=ad_ R0.out 0
 have e1:=ad_ R0.out 1
 go_wp2
 refine bodyPost_ret (bb_ Tryz.results32 _ _ (w.heap.size+1) 24 #[.slice a4 n4 c4,.slice b4 m4 d4] (0,0) _ rfl R9.out Tryz.underlying24 rfl (by kernel_rfl)) rfl ?_
 exact⟨a4,n4,c4,u4,b4,m4,d4,v4,rfl,P9.out,Q9.out,K4.out,G9.out⟩
theorem om_(a1:OA_)(n1 c1:Nat)(u1:LR_)(b1:OA_)(m1 d1:Nat)(v1:LR_){h1 r1:Nat}(e:Int)(w:World)(ha1:Rw w a1 n1 c1 u1)(hb1:Rw w b1 m1 d1 v1)(f1:Fz u1 v1 h1 r1)(hv:plen v1≠0) (he:0≤e)(he8:e≤8)(hh:h1≤50)(hk:∀k,k < e.toNat→Fok (1+k * h1+h1) ((2+k * (r1+2)+1) * (2 * (1+k * h1))+r1+2)) :
 Calls Tryz.prog 32 #[.agg #[.slice a1 n1 c1,.slice b1 m1 d1],.int .i64 e] w (LstFV (ppow u1 e.toNat) (ppow v1 e.toNat) (.bool true) w):=by
 obtain⟨z0,hz0⟩:∃q:Rat,((1:Int):Rat)=q:=⟨_,rfl⟩
 have lz:qlen z0≤2:=by rw[←hz0];exact br_ (by decide)
 have HIK:∀w':World,Calls Tryz.prog 15 #[.int .i64 1] w' (LstQ z0 w'):=fun w'=>hz0▸cz_ 1 w' (by decide)
 have hz00:z0=1:=by rw[←hz0];rfl
 have HOF:∀(w':World) (a2:OA_) (n2 c2:Nat) (b2:OA_) (m2 d2:Nat),Wd w' a2 n2 c2 (dg z0.num.natAbs)→Wd w' b2 m2 d2 (dg z0.den)→Calls Tryz.prog 14 #[(frV (zneg z0.num) a2 n2 c2 b2 m2 d2)] w' (LstF [1] [1] w'):=fun w' a2 n2 c2 b2 m2 d2 g1 g2=>(gd_ z0 a2 n2 c2 b2 m2 d2 2 w' g1 g2 lz fok26 (Nat.le_refl 2)).mono fun e w2 h9=>by
  obtain⟨a4,n4,c4,x,b4,m4,d4,y,k1,k2,k3,k4,k5⟩:=h9
  exact⟨a4,n4,c4,x,b4,m4,d4,y,k1,k2,k3,k4.of (by rw[hz00];exact ap_ fun z=>by show _+z * (0+z * 0)=1+z * 0;grind) (peq.refl _),k5⟩
 clear hz00
 clear hz0 lz
 have HMU:Hid (∀(w':World) (k:Nat) (a3:OA_) (n3 c3:Nat) (x:LR_) (b3:OA_) (m3 d3:Nat) (y:LR_),k < e.toNat→isF (ppow u1 k) (ppow v1 k) x y→Rw w' a3 n3 c3 x→Rw w' b3 m3 d3 y→Rw w' a1 n1 c1 u1→Rw w' b1 m1 d1 v1→Calls Tryz.prog 39 #[.agg #[.slice a3 n3 c3,.slice b3 m3 d3],.agg #[.slice a1 n1 c1,.slice b1 m1 d1]] w' (LstF (ppow u1 (k+1)) (ppow v1 (k+1)) w')):=hd_ (fun w' k a3 n3 c3 x b3 m3 d3 y hk3 g0 g1 g2 g3 g4=>by
  have h5:k * h1≤100 * 1000:=Nat.mul_le_mul (by omega) (by omega)
  have h6:=(f1.pow (by omega) k (by omega)).right g0 (by omega) (by omega)
  refine (iy_ a3 n3 c3 x b3 m3 d3 y a1 n1 c1 u1 b1 m1 d1 v1 w' g1 g2 h6 g3 g4 f1 (by have h7:=hk k hk3;exact h7)).mono fun e w2 h9=>?_
  obtain⟨a4,n4,c4,x4,b4,m4,d4,y4,k1,k2,k3,k4,k5⟩:=h9
  exact⟨a4,n4,c4,x4,b4,m4,d4,y4,k1,k2,k3,g0.times (hf_ hv k) hv k4,k5⟩)
 have HB:=hd_ (ab_ (aa_ w (.cells #[.slice a1 n1 c1,.slice b1 m1 d1] 24)) (aa_ _ (.cells #[.slice none 0 0,.slice none 0 0] 24)))
 have X0:Hid (((w.alloc (.cells #[.slice a1 n1 c1,.slice b1 m1 d1] 24)).alloc (.cells #[.slice none 0 0,.slice none 0 0] 24)).heap[w.heap.size]? = some (.cells #[.slice a1 n1 c1,.slice b1 m1 d1] 24 (0,0))):=hd_ (ac_ (ai_ w _ _) (aa_ _ (.cells #[.slice none 0 0,.slice none 0 0] 24)))
 have R0:Hid (((w.alloc (.cells #[.slice a1 n1 c1,.slice b1 m1 d1] 24)).alloc (.cells #[.slice none 0 0,.slice none 0 0] 24)).heap[w.heap.size+1]? = some (.cells #[.slice none 0 0,.slice none 0 0] 24 (0,0))):=hd_ (by have h9:=ai_ (w.alloc (.cells #[.slice a1 n1 c1,.slice b1 m1 d1] 24)) #[.slice none 0 0,.slice none 0 0] 24;rwa [al_] at h9)
 have F1:=hd_ (ha1.later HB.out)
 have F2:=hd_ (hb1.later HB.out)
 clear ha1 hb1 f1 hv hh hk
 go_enter Tryz.func32,Tryz.ntmps32
 go_wp2_with fail
 refine (HIK _).mono ?_
 rintro e1 w3 ⟨a5,n5,c5,b5,m5,d5,rfl,h5,g5,b⟩
 replace HB:=bt_ HB b
 replace X0:=bl_ X0 b
 replace R0:=bl_ R0 b
 replace F1:=F1.l_ b
 replace F2:=F2.l_ b
 have Z5:=hd_ h5
 have Y5:=hd_ g5
 clear h5 g5 b
 unfold frV
 go_wp2_with fail
 refine (HOF _ _ _ _ _ _ _ Z5.out Y5.out).mono ?_
 rintro e1 w4 ⟨a4,n4,c4,u4,b4,m4,d4,v4,rfl,h4,g4,k4,b⟩
 replace HB:=bt_ HB b
 replace X0:=bl_ X0 b
 replace R0:=bl_ R0 b
 replace F1:=F1.l_ b
 replace F2:=F2.l_ b
 clear Z5 Y5
 have hgw:w.heap.size+1 < w4.heap.size:=(Array.getElem?_eq_some_iff.1 R0.out).1
 have ba:=aa_ w4 (.cells #[.slice a4 n4 c4,.slice b4 m4 d4] 24)
 have HO:Hid (BoxF (w4.alloc (.cells #[.slice a4 n4 c4,.slice b4 m4 d4] 24)) w4.heap.size 24 (ppow u1 0) (ppow v1 0)):=hd_ ⟨a4,n4,c4,u4,b4,m4,d4,v4,ai_ w4 _ _,h4.later ba,g4.later ba,k4⟩
 replace HB:=bt_ HB ba
 replace X0:=bl_ X0 ba
 replace R0:=bl_ R0 ba
 replace F1:=F1.l_ ba
 replace F2:=F2.l_ ba
 clear h4 g4 k4 b ba HIK HOF
 go_wp2
 generalize w4.heap.size=g at *
 go_loopw [7] (fun iv wr=>∃k:Nat,iv=.int .i64 ((k:Int))∧(k:Int)≤e∧k≤8∧Hid (BoxF wr g 24 (ppow u1 k) (ppow v1 k))∧Hid (wr.heap[w.heap.size]? = some (.cells #[.slice a1 n1 c1,.slice b1 m1 d1] 24 (0,0)))∧Hid (wr.heap[w.heap.size+1]? = some (.cells #[.slice none 0 0,.slice none 0 0] 24 (0,0)))∧Hid (Rw wr a1 n1 c1 u1)∧Hid (Rw wr b1 m1 d1 v1)∧Hid (Below w.heap.size w wr)) (fun iv _=>(8 - intOf iv).toNat)
 case atStart=>exact⟨0,by go_num,by omega,by omega,HO,X0,R0,F1,F2,HB⟩
 case round=>
  clear HO X0 R0 F1 F2 HB
  obtain⟨k,rfl,hk,hk8,HO,X0,R0,F1,F2,HB⟩:=hrel
  obtain⟨a4,n4,c4,u4,b4,m4,d4,v4,hO,h4,g4,k4⟩:=HO.out
  have O0:=hd_ hO
  have F4:=hd_ h4
  have G4:=hd_ g4
  have K4:=hd_ k4
  clear hO h4 g4 k4 HO
  obtain⟨q0,q1⟩:=a0_ O0.out
  obtain⟨k0,k1⟩:=a0_ X0.out
  by_cases hlt:(k:Int) < e
  ·go_wp2_with fail
   refine (HMU.out _ k _ _ _ _ _ _ _ _ (by omega) K4.out F4.out G4.out F1.out F2.out).mono ?_
   rintro e3 w5 ⟨a6,n6,c6,u6,b6,m6,d6,v6,rfl,h6,g6,k6,b⟩
   clear k0 k1 q0 q1
   replace HB:=bt_ HB b
   replace X0:=bl_ X0 b
   replace R0:=bl_ R0 b
   replace O0:=bl_ O0 b
   replace F1:=F1.l_ b
   replace F2:=F2.l_ b
   have HO2:Hid (BoxF ((w5.setCell ⟨g,0,none⟩ (.slice a6 n6 c6)).setCell ⟨g,1,none⟩ (.slice b6 m6 d6)) g 24 (ppow u1 (k+1)) (ppow v1 (k+1))):=hd_ ⟨a6,n6,c6,u6,b6,m6,d6,v6,a4_ O0.out _ _,h6.boxed O0.out _ _,g6.boxed O0.out _ _,k6⟩
   replace HB:=hd_ (an_ HB.out (show w.heap.size≤g by omega) (.slice a6 n6 c6) (.slice b6 m6 d6))
   replace R0:=hd_ (bh_ R0.out (show w.heap.size+1≠g by omega) (.slice a6 n6 c6) (.slice b6 m6 d6))
   replace X0:=hd_ (bh_ X0.out (show w.heap.size≠g by omega) (.slice a6 n6 c6) (.slice b6 m6 d6))
   replace F1:=hd_ (F1.out.boxed O0.out (.slice a6 n6 c6) (.slice b6 m6 d6))
   replace F2:=hd_ (F2.out.boxed O0.out (.slice a6 n6 c6) (.slice b6 m6 d6))
   obtain⟨q0,q1⟩:=a0_ O0.out
   have e0:=ad_ O0.out 0
   have e1:=ad_ O0.out 1
   clear h6 g6 k6 b F4 G4 K4 O0
   go_wp2
   go_roundw
   case rel=>exact⟨k+1,by go_num,by omega,by omega,HO2,X0,R0,F1,F2,HB⟩
   case measure=>simp[intOf];omega
  ·obtain rfl:k=e.toNat:=by omega
   clear hlt
   go_wp2
   go_loop [8] (fun iv=>iv=.int .i64 0) (fun _=>0)
   case atStart=>rfl
   case round=>
    obtain rfl:=hrel
    have R9:=hd_ (a4_ R0.out (.slice a4 n4 c4) (.slice b4 m4 d4))
    have P9:=hd_ (F4.out.boxed R0.out (.slice a4 n4 c4) (.slice b4 m4 d4))
    have Q9:=hd_ (G4.out.boxed R0.out (.slice a4 n4 c4) (.slice b4 m4 d4))
    have G9:=hd_ (an_ HB.out (show w.heap.size≤w.heap.size+1 by omega) (.slice a4 n4 c4) (.slice b4 m4 d4))
    obtain⟨r0,r1⟩:=a0_ R0.out
    have e0:=ad_ R0.out 0
    have e1:=ad_ R0.out 1
    go_wp2
    refine bodyPost_ret (bb_ Tryz.results32 _ _ (w.heap.size+1) 24 #[.slice a4 n4 c4,.slice b4 m4 d4] (0,0) _ rfl R9.out Tryz.underlying24 rfl (by kernel_rfl)) rfl ?_
    exact⟨a4,n4,c4,u4,b4,m4,d4,v4,rfl,P9.out,Q9.out,K4.out,G9.out⟩
theorem oe_(a1:OA_)(n1 c1:Nat)(u1:LR_)(b1:OA_)(m1 d1:Nat)(v1:LR_){h1 r1:Nat}(e:Int)(w:World)(ha1:Rw w a1 n1 c1 u1)(hb1:Rw w b1 m1 d1 v1)(f1:Fz u1 v1 h1 r1)(hv:plen u1≠0)(hu:u1≠[]) (he:e < 0)(he8 : -8≤e)(hh:h1≤50)(hk:∀k,k < (-e).toNat→Fok (1+k * h1+h1) ((2+k * (r1+2)+1) * (2 * (1+k * h1))+r1+2)) :
 Calls Tryz.prog 32 #[.agg #[.slice a1 n1 c1,.slice b1 m1 d1],.int .i64 e] w (LstFV (ppow v1 (-e).toNat) (ppow u1 (-e).toNat) (.bool true) w):=by
 obtain⟨z0,hz0⟩:∃q:Rat,((1:Int):Rat)=q:=⟨_,rfl⟩
 have lz:qlen z0≤2:=by rw[←hz0];exact br_ (by decide)
 have HIK:∀w':World,Calls Tryz.prog 15 #[.int .i64 1] w' (LstQ z0 w'):=fun w'=>hz0▸cz_ 1 w' (by decide)
 have hz00:z0=1:=by rw[←hz0];rfl
 have HOF:∀(w':World) (a2:OA_) (n2 c2:Nat) (b2:OA_) (m2 d2:Nat),Wd w' a2 n2 c2 (dg z0.num.natAbs)→Wd w' b2 m2 d2 (dg z0.den)→Calls Tryz.prog 14 #[(frV (zneg z0.num) a2 n2 c2 b2 m2 d2)] w' (LstF [1] [1] w'):=fun w' a2 n2 c2 b2 m2 d2 g1 g2=>(gd_ z0 a2 n2 c2 b2 m2 d2 2 w' g1 g2 lz fok26 (Nat.le_refl 2)).mono fun e w2 h9=>by
  obtain⟨a4,n4,c4,x,b4,m4,d4,y,k1,k2,k3,k4,k5⟩:=h9
  exact⟨a4,n4,c4,x,b4,m4,d4,y,k1,k2,k3,k4.of (by rw[hz00];exact ap_ fun z=>by show _+z * (0+z * 0)=1+z * 0;grind) (peq.refl _),k5⟩
 clear hz00
 clear hz0 lz
 have hn0:((n1:Int) == 0)=false:=by
  have h9:=ha1.len
  have h8:n1≠0:=fun h=>hu (List.length_eq_zero_iff.1 (h9.trans h))
  simp[h8]
 clear hu
 have HMU:Hid (∀(w':World) (k:Nat) (a3:OA_) (n3 c3:Nat) (x:LR_) (b3:OA_) (m3 d3:Nat) (y:LR_),k < (-e).toNat→isF (ppow v1 k) (ppow u1 k) x y→Rw w' a3 n3 c3 x→Rw w' b3 m3 d3 y→Rw w' a1 n1 c1 u1→Rw w' b1 m1 d1 v1→Calls Tryz.prog 30 #[.agg #[.slice a3 n3 c3,.slice b3 m3 d3],.agg #[.slice a1 n1 c1,.slice b1 m1 d1]] w' (LstF (ppow v1 (k+1)) (ppow u1 (k+1)) w')):=hd_ (fun w' k a3 n3 c3 x b3 m3 d3 y hk3 g0 g1 g2 g3 g4=>by
  have h5:k * h1≤100 * 1000:=Nat.mul_le_mul (by omega) (by omega)
  have h6:=(f1.swap.pow (by omega) k (by omega)).right g0 (by omega) (by omega)
  refine (p5_ a3 n3 c3 x b3 m3 d3 y a1 n1 c1 u1 b1 m1 d1 v1 w' g1 g2 h6 g3 g4 f1 (by have h7:=hk k hk3;exact h7)).mono fun e w2 h9=>?_
  obtain⟨a4,n4,c4,x4,b4,m4,d4,y4,k1,k2,k3,k4,k5⟩:=h9
  exact⟨a4,n4,c4,x4,b4,m4,d4,y4,k1,k2,k3,g0.times (hf_ hv k) hv k4,k5⟩)
 have HB:=hd_ (ab_ (aa_ w (.cells #[.slice a1 n1 c1,.slice b1 m1 d1] 24)) (aa_ _ (.cells #[.slice none 0 0,.slice none 0 0] 24)))
 have X0:Hid (((w.alloc (.cells #[.slice a1 n1 c1,.slice b1 m1 d1] 24)).alloc (.cells #[.slice none 0 0,.slice none 0 0] 24)).heap[w.heap.size]? = some (.cells #[.slice a1 n1 c1,.slice b1 m1 d1] 24 (0,0))):=hd_ (ac_ (ai_ w _ _) (aa_ _ (.cells #[.slice none 0 0,.slice none 0 0] 24)))
 have R0:Hid (((w.alloc (.cells #[.slice a1 n1 c1,.slice b1 m1 d1] 24)).alloc (.cells #[.slice none 0 0,.slice none 0 0] 24)).heap[w.heap.size+1]? = some (.cells #[.slice none 0 0,.slice none 0 0] 24 (0,0))):=hd_ (by have h9:=ai_ (w.alloc (.cells #[.slice a1 n1 c1,.slice b1 m1 d1] 24)) #[.slice none 0 0,.slice none 0 0] 24;rwa [al_] at h9)
 have F1:=hd_ (ha1.later HB.out)
 have F2:=hd_ (hb1.later HB.out)
 clear ha1 hb1 f1 hv hh hk
 go_enter Tryz.func32,Tryz.ntmps32
 obtain⟨k0,k1⟩:=a0_ X0.out
 go_wp2_with fail
 refine (jy_ _ _ _ _ _ _ false _ hn0).mono ?_
 rintro e2 w2 ⟨rfl,b⟩
 clear k0 k1
 replace HB:=bt_ HB b
 replace X0:=bl_ X0 b
 replace R0:=bl_ R0 b
 replace F1:=F1.l_ b
 replace F2:=F2.l_ b
 clear b hn0
 go_wp2_with fail
 refine (HIK _).mono ?_
 rintro e1 w3 ⟨a5,n5,c5,b5,m5,d5,rfl,h5,g5,b⟩
 replace HB:=bt_ HB b
 replace X0:=bl_ X0 b
 replace R0:=bl_ R0 b
 replace F1:=F1.l_ b
 replace F2:=F2.l_ b
 have Z5:=hd_ h5
 have Y5:=hd_ g5
 clear h5 g5 b
 unfold frV
 go_wp2_with fail
 refine (HOF _ _ _ _ _ _ _ Z5.out Y5.out).mono ?_
 rintro e1 w4 ⟨a4,n4,c4,u4,b4,m4,d4,v4,rfl,h4,g4,k4,b⟩
 replace HB:=bt_ HB b
 replace X0:=bl_ X0 b
 replace R0:=bl_ R0 b
 replace F1:=F1.l_ b
 replace F2:=F2.l_ b
 clear Z5 Y5
 have hgw:w.heap.size+1 < w4.heap.size:=(Array.getElem?_eq_some_iff.1 R0.out).1
 have ba:=aa_ w4 (.cells #[.slice a4 n4 c4,.slice b4 m4 d4] 24)
 have HO:Hid (BoxF (w4.alloc (.cells #[.slice a4 n4 c4,.slice b4 m4 d4] 24)) w4.heap.size 24 (ppow v1 0) (ppow u1 0)):=hd_ ⟨a4,n4,c4,u4,b4,m4,d4,v4,ai_ w4 _ _,h4.later ba,g4.later ba,k4⟩
 replace HB:=bt_ HB ba
 replace X0:=bl_ X0 ba
 replace R0:=bl_ R0 ba
 replace F1:=F1.l_ ba
 replace F2:=F2.l_ ba
 clear h4 g4 k4 b ba HIK HOF
 go_wp2
 go_loop [7] (fun iv=>iv=.int .i64 0) (fun _=>0)
 case atStart=>rfl
 case round=>
  obtain rfl:=hrel
  go_wp2
  generalize w4.heap.size=g at *
  go_loopw [8] (fun iv wr=>∃k:Nat,iv=.int .i64 (-(k:Int))∧e≤-(k:Int)∧k≤8∧Hid (BoxF wr g 24 (ppow v1 k) (ppow u1 k))∧Hid (wr.heap[w.heap.size]? = some (.cells #[.slice a1 n1 c1,.slice b1 m1 d1] 24 (0,0)))∧Hid (wr.heap[w.heap.size+1]? = some (.cells #[.slice none 0 0,.slice none 0 0] 24 (0,0)))∧Hid (Rw wr a1 n1 c1 u1)∧Hid (Rw wr b1 m1 d1 v1)∧Hid (Below w.heap.size w wr)) (fun iv _=>(8+intOf iv).toNat)
  case atStart=>exact⟨0,by go_num,by omega,by omega,HO,X0,R0,F1,F2,HB⟩
  case round=>
   clear HO X0 R0 F1 F2 HB
   obtain⟨k,rfl,hk,hk8,HO,X0,R0,F1,F2,HB⟩:=hrel
   obtain⟨a4,n4,c4,u4,b4,m4,d4,v4,hO,h4,g4,k4⟩:=HO.out
   have O0:=hd_ hO
   have F4:=hd_ h4
   have G4:=hd_ g4
   have K4:=hd_ k4
   clear hO h4 g4 k4 HO
   obtain⟨q0,q1⟩:=a0_ O0.out
   obtain⟨k0,k1⟩:=a0_ X0.out
   by_cases hlt:e < -(k:Int)
   ·go_wp2_with fail
    refine (HMU.out _ k _ _ _ _ _ _ _ _ (by omega) K4.out F4.out G4.out F1.out F2.out).mono ?_
    rintro e3 w5 ⟨a6,n6,c6,u6,b6,m6,d6,v6,rfl,h6,g6,k6,b⟩
    clear k0 k1 q0 q1
    replace HB:=bt_ HB b
    replace X0:=bl_ X0 b
    replace R0:=bl_ R0 b
    replace O0:=bl_ O0 b
    replace F1:=F1.l_ b
    replace F2:=F2.l_ b
    have HO2:Hid (BoxF ((w5.setCell ⟨g,0,none⟩ (.slice a6 n6 c6)).setCell ⟨g,1,none⟩ (.slice b6 m6 d6)) g 24 (ppow v1 (k+1)) (ppow u1 (k+1))):=hd_ ⟨a6,n6,c6,u6,b6,m6,d6,v6,a4_ O0.out _ _,h6.boxed O0.out _ _,g6.boxed O0.out _ _,k6⟩
    replace HB:=hd_ (an_ HB.out (show w.heap.size≤g by omega) (.slice a6 n6 c6) (.slice b6 m6 d6))
    replace R0:=hd_ (bh_ R0.out (show w.heap.size+1≠g by omega) (.slice a6 n6 c6) (.slice b6 m6 d6))
    replace X0:=hd_ (bh_ X0.out (show w.heap.size≠g by omega) (.slice a6 n6 c6) (.slice b6 m6 d6))
    replace F1:=hd_ (F1.out.boxed O0.out (.slice a6 n6 c6) (.slice b6 m6 d6))
    replace F2:=hd_ (F2.out.boxed O0.out (.slice a6 n6 c6) (.slice b6 m6 d6))
    obtain⟨q0,q1⟩:=a0_ O0.out
    have e0:=ad_ O0.out 0
    have e1:=ad_ O0.out 1
    clear h6 g6 k6 b F4 G4 K4 O0
    go_wp2
    go_roundw
    case rel=>exact⟨k+1,by go_num,by omega,by omega,HO2,X0,R0,F1,F2,HB⟩
    case measure=>simp[intOf];omega
   ·obtain rfl:k=(-e).toNat:=by omega
    clear hlt
    have R9:=hd_ (a4_ R0.out (.slice a4 n4 c4) (.slice b4 m4 d4))
    have P9:=hd_ (F4.out.boxed R0.out (.slice a4 n4 c4) (.slice b4 m4 d4))
    have Q9:=hd_ (G4.out.boxed R0.out (.slice a4 n4 c4) (.slice b4 m4 d4))
    have G9:=hd_ (an_ HB.out (show w.heap.size≤w.heap.size+1 by omega) (.slice a4 n4 c4) (.slice b4 m4 d4))
    obtain⟨r0,r1⟩:=a0_ R0.out
    have e0:=ad_ R0.out 0
    have e1:=ad_ R0.out 1
    go_wp2
    refine bodyPost_ret (bb_ Tryz.results32 _ _ (w.heap.size+1) 24 #[.slice a4 n4 c4,.slice b4 m4 d4] (0,0) _ rfl R9.out Tryz.underlying24 rfl (by kernel_rfl)) rfl ?_
    exact⟨a4,n4,c4,u4,b4,m4,d4,v4,rfl,P9.out,Q9.out,K4.out,G9.out⟩
theorem tq_{u v:List Rat}{h s:Nat}(f:Fz u v h s)(hs:s+2≤15728640000):(∀q∈u,qlen q≤15728640000)∧∀q∈v,qlen q≤15728640000:=⟨fun q hq=>Nat.le_trans (f.qlen q hq) hs,fun q hq=>Nat.le_trans (f.swap.qlen q hq) hs⟩
theorem rw_le{w:World}{a:Option Addr}{n c:Nat}{u:List Rat}{h:Nat}(k:Rw w a n c u)(l:u.length≤h)(hh:h≤1000):n≤1000:=by rw[←k.len];omega
theorem fi_{u v:List Rat}{h s:Nat}(f:Fz u v h s)(hh:h≤1000)(hs:s+2≤15728640000)(w':World)(a:OA_)(n c:Nat)(b:OA_)(m d:Nat)(a':OA_)(n' c':Nat)(b':OA_)(m' d':Nat)(g1:Rw w' a n c u)(g2:Rw w' b m d v)(g3:Rw w' a' n' c' u)(g4:Rw w' b' m' d' v):Calls Tryz.prog 19 #[.agg #[.slice a n c,.slice b m d],.agg #[.slice a' n' c',.slice b' m' d']] w' (bi_ (.bool true) w'):=
 law15_is a n c u b m d v a' n' c' u b' m' d' v true w' g1 g2 g3 g4 (rw_le g1 f.lu hh) (rw_le g2 f.lv hh) (tq_ f hs).1 (tq_ f hs).2 (tq_ f hs).1 (tq_ f hs).2 (decide_eq_true ⟨rfl,rfl⟩)
theorem qv_{u:List Rat}{r:Bool}(hr:decide (u=[])=r)(w':World)(a:OA_)(n c:Nat)(b:OA_)(m d:Nat)(g1:Rw w' a n c u):Calls Tryz.prog 21 #[.agg #[.slice a n c,.slice b m d]] w' (bi_ (.bool r) w'):=
 jy_ a n c b m d r w' (by
  rw[←hr,←g1.len]
  cases u with
  | nil=>rfl
  | cons x l=>simp;omega)
theorem ix_{a:Option Addr}{n c:Nat}{K:List Fx}{b:Option Addr}{m d:Nat}{M:List Fx}{u v:List Rat}{h s:Nat}(tk:thin 1 K)(tm:thin 1 M)(hz:Fz (fqs K) (fqs M) h s)(hf:isF (fqs K) (fqs M) u v)(hk:Fok h s)(w':World)(g1:Fxs w' a n c K)(g2:Fxs w' b m d M):Calls Tryz.prog 10 #[.agg #[.slice a n c,.slice b m d]] w' (LstX u v w'):=
 (m9_ a n c K b m d M h s w' g1 g2 (tk.mono (by decide)) (tm.mono (by decide)) hz hk).mono fun _ _ h9=>h9.just hf
theorem op_{a:Option Addr}{n c:Nat}{K:List Fx}{b:Option Addr}{m d:Nat}{M:List Fx}(tk:thin 1 K)(tm:thin 1 M)(ln:n≤1000)(lm:m≤1000)(w':World)(g1:Fxs w' a n c K)(g2:Fxs w' b m d M):Calls Tryz.prog 12 #[.agg #[.slice a n c,.slice b m d]] w' (LstP (fqs K) (fqs M) w'):=
 (law15_to a n c K b m d M w' g1 g2 ln lm).mono fun _ _ ⟨a',c',b',d',h6,h7,h5,h4⟩=>⟨a',n,c',b',m,d',h6,⟨Pv.of h7 tk,Pv.of h5 tm⟩,h4⟩
end Go.Proofs.YtocebjbjnfammaaGreat
