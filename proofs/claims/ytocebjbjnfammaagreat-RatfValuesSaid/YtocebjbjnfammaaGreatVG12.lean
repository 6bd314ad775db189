import Derived.Test.YtocebjbjnfammaaGreatVG11
import Derived.Test.YtocebjbjnfammaaGreatVG3
import Derived.Deep.RegionHeld3
import Derived.Deep.CutRange
import Derived.Deep.RegionWith
import Derived.Test.YtocebjbjnfammaaGreatVG2
import Derived.Test.YtocebjbjnfammaaGreatVG1
set_option maxRecDepth 4096
set_option maxHeartbeats 16000000
namespace Go.Proofs.YtocebjbjnfammaaGreat
open Go.RowKit
theorem p4_{U V x y g:List Rat}{h K:Nat}(p:PartP U V h K x y g)(hV:plen V≠0):plen y≠0∧co y (plen y - 1)=co V (plen V - 1):=by
 have hg:=p.gcd.monic (p.g0 hV)
 have hy:plen y≠0:=fun e=>hV (by rw[am_ p.dy,am_ (ax_ (cm_ e) (peq.refl g))];rfl)
 have h0:=hg.1
 obtain⟨e1,e2⟩:=em_ (a:=y) (b:=g) (m:=plen y - 1) (n:=plen g - 1) (by omega) (by omega)
 refine ⟨hy,?_⟩
 rw[hg.2,Rat.mul_one] at e2
 rw[am_ p.dy,p.dy,e1,Nat.add_sub_cancel]
 exact e2.symm
theorem part_new{U V u v x y g:List Rat}{h s K:Nat}{t per:Rat}(p:PartP U V h K x y g)(hf:isF U V u v)(hz:Fz U V h s)(hV:plen V≠0)(h1:1≤h)(h2:h≤1000000)(ht:co y (plen y - 1)=t)(hp:1 / t=per) :
 t≠0∧qlen t≤s+2∧qlen per≤s+2∧ai_ (ag_ per x)=u∧ai_ (ag_ per y)=v∧(∀q∈x,qlen q≤(s+1) * (2 * h)+s+5)∧∀q∈y,qlen q≤(s+1) * (2 * h)+s+5:=by
 obtain⟨hy,he⟩:=p4_ p hV
 have hy9:=dm_ (a:=y) (n:=plen y - 1) (by omega)
 have ht0:t≠0:=by rw[←ht];exact hy9
 have htl:qlen t≤s+2:=by rw[←ht,he];exact c0_ (by omega) hz.swap.qlen _
 have hpl:qlen per≤s+2:=by
  rw[←hp,Rat.div_def,Rat.one_mul]
  exact Nat.le_trans (g0_ _) htl
 obtain⟨e1,e2⟩:=hf.same (isF_gcd (c:=per) p.gcd hV p.dx p.dy (by rw[ht];exact hp.symm))
 have hR:=hz.right hf h1 h2
 have hpt:per * t=1:=by rw[←hp];exact Rat.div_mul_cancel ht0
 have hback:∀z w:LR_,ai_ (ag_ per z)=w→(∀q∈w,qlen q≤(s+1) * (2 * h)+2)→∀q∈z,qlen q≤(s+1) * (2 * h)+s+5:=fun z w hw hq=>b7_ fun i=>by
  have e3:co z i=t * co w i:=by
   rw[←hw,ev_,ah_]
   have:t * (per * co z i)=per * t * co z i:=by grind
   rw[this,hpt,Rat.one_mul]
  have g1:=ch_ t (co w i)
  have g2:=c0_ (A:=(s+1) * (2 * h)+2) (by omega) hq i
  rw[e3];omega
 exact⟨ht0,htl,hpl,e1,e2,hback x u e1 hR.qlen,hback y v e2 hR.swap.qlen⟩
theorem kg_{h s:Nat}(hk:Fok h s):(s+1) * (2 * h)+s+6≤60000000:=by
 obtain⟨h1,h2,h3,h4,h5⟩:=hk
 have g1:32 * ((s+1) * (2 * h+1)+5)≤(4 * h+24) * ((s+1) * (2 * h+1)+5):=Nat.mul_le_mul_right _ (by omega)
 have g2:(s+1) * (2 * h+1)=(s+1) * (2 * h)+(s+1):=by rw[Nat.mul_add,Nat.mul_one]
 omega
theorem oi_(S:PolySaid)(FS:FracSaid)(a:OA_)(n c:Nat)(b:OA_)(m d:Nat)(V:LR_)(w:World)(hV:Pv w b m d V 1900000000)(hm:m≤50)(hV0:plen V=0):Calls Tryz.prog 13 #[.slice a n c,.slice b m d] w (LstEV [] [1] (.bool false) w):=by
 have HDV:∀w':World,Pv w' b m d V 1900000000→Calls Tryz.prog 61 #[.slice b m d] w' (bg_ (.int .i64 (-1)) w'):=fun w' g1=>by
  have h9:=g1_ S g1 (by omega) (Nat.le_refl _)
  rwa [hV0] at h9
 obtain⟨z0,hz0⟩:∃q:Rat,((0:Int):Rat)=q:=⟨_,rfl⟩
 have hz00:z0=0:=by rw[←hz0];rfl
 have lz:qlen z0≤2:=by rw[←hz0];exact co_ (by decide)
 have HO0:∀w':World,Calls Tryz.prog 47 #[.int .i64 0] w' (LstQ z0 w'):=fun w'=>hz0▸FS.of 0 w' (by decide)
 have HOF:∀(w':World) (a2:OA_) (n2 c2:Nat) (b2:OA_) (m2 d2:Nat),Wd w' a2 n2 c2 (dg z0.num.natAbs)→Wd w' b2 m2 d2 (dg z0.den)→Calls Tryz.prog 28 #[.agg #[.bool (zneg z0.num),.slice a2 n2 c2,.slice b2 m2 d2]] w' (LstE [] [1] w'):=fun w' a2 n2 c2 b2 m2 d2 g1 g2=>by
  have h9:=ol_ S FS _ z0 2 w' (Fr.right g1 g2 (by have:=g1.len;have:=bd_ z0;omega) (by have:=g2.len;have:=bc_ z0;omega)) (by decide) (Nat.le_refl 2)
  rwa [show ai_ [z0,0]=[] by rw[hz00];decide +kernel] at h9
 have HB:=hd_ (aa_ w (.cells #[.slice none 0 0,.slice none 0 0] 35))
 have R0:Hid ((w.alloc (.cells #[.slice none 0 0,.slice none 0 0] 35)).heap[w.heap.size]? = some (.cells #[.slice none 0 0,.slice none 0 0] 35 (0,0))):=hd_ (aj_ w _ _)
 have B1:=hd_ (hV.later HB.out)
 clear hV hV0 hz0 hz00 lz hm
 go_enter Tryz.func13,Tryz.ntmps13
 go_wp2_with fail
 refine (HDV _ B1.out).mono ?_
 rintro e w1 ⟨rfl,bw⟩
 replace HB:=bt_ HB bw
 replace R0:=bl_ R0 bw
 clear bw B1 HDV
 go_wp2_with fail
 refine (HO0 _).mono ?_
 rintro e w2 ⟨a5,n5,c5,b5,m5,d5,rfl,h5,g5,b⟩
 replace HB:=bt_ HB b
 replace R0:=bl_ R0 b
 have Z1:=hd_ h5
 have Z2:=hd_ g5
 clear h5 g5 b HO0
 unfold frV
 go_wp2_with fail
 refine (HOF _ _ _ _ _ _ _ Z1.out Z2.out).mono ?_
 rintro e w3 ⟨a6,n6,c6,b6,m6,d6,rfl,h6,g6,b⟩
 replace HB:=bt_ HB b
 replace R0:=bl_ R0 b
 have P9:=hd_ h6
 have Q9:=hd_ g6
 clear h6 g6 b HOF Z1 Z2
 obtain⟨r0,r1⟩:=bu_ R0.out
 have e0:=af_ R0.out 0
 have e1:=af_ R0.out 1
 have R9:=hd_ (bk_ R0.out (.slice a6 n6 c6) (.slice b6 m6 d6))
 replace P9:=hd_ (P9.out.boxed R0.out (.slice a6 n6 c6) (.slice b6 m6 d6))
 replace Q9:=hd_ (Q9.out.boxed R0.out (.slice a6 n6 c6) (.slice b6 m6 d6))
 have G9:=hd_ (a0_ HB.out (show w.heap.size≤w.heap.size by omega) (.slice a6 n6 c6) (.slice b6 m6 d6))
 go_wp2
 refine bodyPost_ret (bi_ Tryz.results13 _ _ (w.heap.size) 35 #[.slice a6 n6 c6,.slice b6 m6 d6] (0,0) _ rfl R9.out Tryz.underlying35 rfl (by kernel_rfl)) rfl ?_
 exact⟨a6,n6,c6,b6,m6,d6,rfl,P9.out,Q9.out,G9.out⟩
theorem no_(S:PolySaid)(FS:FracSaid)(a:OA_)(n c:Nat)(U:LR_)(b:OA_)(m d:Nat)(V:LR_)(u v:LR_)(h s:Nat)(w:World)(hU:Pv w a n c U 1900000000)(hV:Pv w b m d V 1900000000)(hf:isF U V u v)(hz:Fz U V h s)(hk:Fok h s)(hV0:plen V≠0):Calls Tryz.prog 13 #[.slice a n c,.slice b m d] w (LstEV u v (.bool true) w):=by
 have hh50:h≤50:=hk.2.1
 have hh2:2≤h:=hk.1
 have hfew:=kg_ hk
 have HDV:∀w':World,Pv w' b m d V 1900000000→Calls Tryz.prog 61 #[.slice b m d] w' (bg_ (.int .i64 ((plen V:Int) - 1)) w'):=fun w' g1=>g1_ S g1 (by rw[←g1.len];have:=hz.lv;omega) (Nat.le_refl _)
 have HPT:∀w':World,Pv w' a n c U 1900000000→Pv w' b m d V 1900000000→Calls Tryz.prog 62 #[.slice a n c,.slice b m d] w' (jg_ U V h ((s+1) * (2 * h+1)+2) w'):=fun w' g1 g2=>fp_ S a n c U b m d V h s w' g1 g2 hz hk.2.2.2 hV0
 obtain⟨i,hi⟩:∃i:Int,(plen V:Int) - 1=i:=⟨_,rfl⟩
 rw[hi] at HDV
 have hi0:¬i < 0:=by omega
 obtain⟨z1,hz9⟩:∃z:Rat,((1:Int):Rat)=z:=⟨_,rfl⟩
 have HO1:∀w':World,Calls Tryz.prog 47 #[.int .i64 1] w' (LstQ z1 w'):=fun w'=>hz9▸FS.of 1 w' (by decide)
 have HZL:Hid (qlen z1≤2):=hd_ (hz9▸co_ (by decide))
 have HZ1:Hid (z1=1):=hd_ (by rw[←hz9];rfl)
 have HF:=hd_ (And.intro hf (And.intro hz (And.intro hV0 (And.intro hh2 (And.intro hh50 hfew)))))
 generalize (s+1) * (2 * h+1)+2=K at HPT
 have HB:=hd_ (aa_ w (.cells #[.slice none 0 0,.slice none 0 0] 35))
 have R0:Hid ((w.alloc (.cells #[.slice none 0 0,.slice none 0 0] 35)).heap[w.heap.size]? = some (.cells #[.slice none 0 0,.slice none 0 0] 35 (0,0))):=hd_ (aj_ w _ _)
 have A1:=hd_ (hU.later HB.out)
 have B1:=hd_ (hV.later HB.out)
 clear hU hV hf hz hk hV0 hh50 hh2 hfew hi hz9
 go_enter Tryz.func13,Tryz.ntmps13
 go_wp2_with fail
 refine (HDV _ B1.out).mono ?_
 rintro e w1 ⟨rfl,bw⟩
 replace HB:=bt_ HB bw
 replace R0:=bl_ R0 bw
 replace A1:=A1.l_ bw
 replace B1:=B1.l_ bw
 clear bw HDV
 go_wp2_with fail
 refine (HPT _ A1.out B1.out).mono ?_
 rintro e9 wr ⟨a1,n1,c1,x,a2,n2,c2,y,a3,n3,c3,g,rfl,hx1,hy1,hg1,pp,bw⟩
 replace HB:=bt_ HB bw
 replace R0:=bl_ R0 bw
 obtain⟨hf,hz,hV0,hh2,hh50,hfew⟩:=HF.out
 have hy0:=(p4_ pp hV0).1
 have hyl:plen y=n2:=by rw[a1_ pp.ny,hy1.len]
 have hdx:=pdvd.len (a:=V) (b:=y) ⟨g,pp.dy.trans (kf_ _ _)⟩ hV0
 have hVl:=a6_ V
 have hn2:n2≤50:=by have:=hz.lv;omega
 have hn1:n1≤50:=by
  by_cases hx0:plen x=0
  ·have:=hx1.len;rw[a1_ pp.nx] at hx0;omega
  ·have hg0:=pp.g0 hV0
   have h8:=am_ pp.dx
   rw[c8_ hx0 hg0,a1_ pp.nx,hx1.len] at h8
   have:=a6_ U
   have:=hz.lu
   omega
 obtain⟨e,rfl⟩:∃e,n2=e+1:=⟨n2 - 1,by omega⟩
 obtain⟨tp,htp⟩:∃t,y.getD e 0=t:=⟨_,rfl⟩
 obtain⟨per,hper⟩:∃p,1 / tp=p:=⟨_,rfl⟩
 obtain⟨htop,htl,hpl,hu,hv,hxq,hyq⟩:=part_new pp hf hz hV0 (by omega) (by omega) (show co y (plen y - 1)=tp by rw[hyl,Nat.add_sub_cancel];exact htp) hper
 obtain⟨bt,offt,hbt,at_,nt,ct,bu,mu,du,ht9,htA,htD⟩:=hy1.at (j:=e) (by omega)
 subst hbt
 rw[htp] at ht9 htA htD
 have lnt:nt≤2000000000:=by rw[←htA.len];exact Nat.le_trans (bd_ _) (by omega)
 have lmt:mu≤2000000000:=by rw[←htD.len];exact Nat.le_trans (bc_ _) (by omega)
 have HQ1:∀(w':World) (a4:OA_) (n4 c4:Nat) (b4:OA_) (m4 d4:Nat),Wd w' a4 n4 c4 (dg z1.num.natAbs)→Wd w' b4 m4 d4 (dg z1.den)→Below wr.heap.size wr w'→Calls Tryz.prog 63 #[.agg #[.bool (zneg z1.num),.slice a4 n4 c4,.slice b4 m4 d4],.agg #[.bool (zneg tp.num),.slice at_ nt ct,.slice bu mu du]] w' (di_ per (.bool true) w'):=fun w' a4 n4 c4 b4 m4 d4 k1 k2 k3=>by
  have h8:=FS.quo (frV (zneg z1.num) a4 n4 c4 b4 m4 d4) (frV (zneg tp.num) at_ nt ct bu mu du) z1 tp w' (Fr.right k1 k2 (by rw[←k1.len];exact Nat.le_trans (bd_ _) (Nat.le_trans HZL.out (by decide))) (by rw[←k2.len];exact Nat.le_trans (bc_ _) (Nat.le_trans HZL.out (by decide)))) (Fr.right (htA.later k3) (htD.later k3) (by omega) (by omega))
  rw[decide_eq_true htop,HZ1.out,hper] at h8
  rw[HZ1.out]
  exact h8
 have HSX:∀(w':World) (v':Value),Fr w' v' per 900000000→Rw w' a1 n1 c1 x→Calls Tryz.prog 64 #[v',.slice a1 n1 c1] w' (ds_ u w'):=fun w' v' k1 k2=>hu▸lu_ S k1 (Pv.right k2 hxq) (by omega) (by omega)
 have HSY:∀(w':World) (v':Value),Fr w' v' per 900000000→Rw w' (some ⟨bt,offt,none⟩) (e+1) c2 y→Calls Tryz.prog 64 #[v',.slice (some ⟨bt,offt,none⟩) (e+1) c2] w' (ds_ v w'):=fun w' v' k1 k2=>hv▸lu_ S k1 (Pv.right k2 hyq) (by omega) (by omega)
 have SU:=hd_ ht9
 have HPL9:Hid (qlen per≤800000000):=hd_ (by omega)
 have XR:=hd_ hx1
 have YR:=hd_ hy1
 have hbd2:=hy1.bound
 have hzz:((e+1:Nat):Int) - 1=(e:Int):=by omega
 have hze:(e:Int) < (e:Int)+1:=by omega
 have hz1:(0:Int)≤(e:Int):=by omega
 have hwe:IntKind.i64.wrap (e:Int)=(e:Int):=by rw[IntKind.wrap_i64];omega
 clear hx1 hy1 hg1 pp bw hf hz hV0 hh2 hh50 hfew hy0 hyl hdx hVl hn2 hn1 htp hper htop htl hpl hu hv hxq hyq ht9 HF A1 B1 HPT
 go_upto_region 4 with fail
 go_cut [6,7] from 20 to 30 (fun cv ov wx=>∃(g:Nat) (a5:OA_) (n5 c5:Nat) (b5:OA_) (m5 d5:Nat),cv=.pointer (some ⟨g,0,none⟩)∧ov=.bool true∧Hid (wx.heap[g]? = some (.cells #[.bool (zneg per.num),.slice a5 n5 c5,.slice b5 m5 d5] 44 (0,0)))∧Hid (Wd wx a5 n5 c5 (dg per.num.natAbs))∧Hid (Wd wx b5 m5 d5 (dg per.den))∧Hid (Below wr.heap.size wr wx))
 case first=>
  obtain⟨s0,s1,s2⟩:=ar_ SU.out (Below.refl wr.heap.size wr)
  go_wp2
  clear s0 s1 s2
  have G1:Below wr.heap.size wr wr.drew:=(Below.refl _ _).drew
  have G2:∀o,Below wr.heap.size wr (wr.alloc o).drew:=fun o=>(aa_ wr o).drew
  have qS:=ar_ SU.out G1
  have qA:=fun o=>ar_ SU.out (G2 o)
  go_region_held3 (fun w'=>w'.cell? ⟨bt,offt+e * 3,none⟩=some (.bool (zneg tp.num))∧w'.cell? ⟨bt,offt+e * 3+1,none⟩=some (.slice at_ nt ct)∧w'.cell? ⟨bt,offt+e * 3+2,none⟩=some (.slice bu mu du)) (first | with_reducible exact qS | with_reducible exact qA _ | with_reducible exact qC)
   (first
   | (go_at_call 47;refine (HO1 _).mono ?_;rintro ed w4 ⟨a4,n4,c4,b4,m4,d4,rfl,h4,g4,bw⟩;unfold frV;(first
     | (have bw1:Below wr.drew.heap.size wr.drew w4:=(by with_reducible exact bw);have BB:=hd_ (ab_ G1 bw1);have A4:=hd_ h4;have D4:=hd_ g4;have M1:=True.intro;clear h4 g4 bw bw1 qS qA;have qS:=ar_ SU.out BB.out;have qA:=fun o=>ar_ SU.out (ab_ BB.out (aa_ w4 o)))
     | (have bw1:Below (wr.alloc (.cells #[.bool false,.slice none 0 0,.slice none 0 0] 44)).drew.heap.size (wr.alloc (.cells #[.bool false,.slice none 0 0,.slice none 0 0] 44)).drew w4:=(by with_reducible exact bw);have BB:=hd_ (ab_ (G2 _) bw1);have Z4:=hd_ (ae_ (w:=(wr.alloc (.cells #[.bool false,.slice none 0 0,.slice none 0 0] 44)).drew) (aj_ wr #[.bool false,.slice none 0 0,.slice none 0 0] 44) bw1);have A4:=hd_ h4;have D4:=hd_ g4;clear h4 g4 bw bw1 qS qA;have qS:=ar_ SU.out BB.out;have qA:=fun o=>ar_ SU.out (ab_ BB.out (aa_ w4 o)))))
   | (go_at_call 63;(first
     | (have Y4:=Z4;(with_reducible refine (HQ1 w4 _ _ _ _ _ _ A4.out D4.out BB.out).mono ?_);rintro ed w5 ⟨a5,n5,c5,b5,m5,d5,rfl,h5,g5,bw⟩;have BC:=hd_ (ab_ BB.out bw);have Z5:=hd_ (ae_ Z4.out bw);have hzb:wr.heap.size≤wr.heap.size:=Nat.le_refl _;have A5:=hd_ h5;have D5:=hd_ g5;clear h5 g5 bw Y4 qS qA;unfold frV;obtain⟨z0,z1,z2⟩:=as_ Z5.out;have f0:=af_ Z5.out 0;have f1:=af_ Z5.out 1;have f2:=af_ Z5.out 2;have qS:=ar_ SU.out BC.out;have qA:=fun o=>ar_ SU.out (ab_ BC.out (aa_ w5 o));have qC:=ar_ SU.out (aw_ BC.out hzb (.bool (zneg per.num)) (.slice a5 n5 c5) (.slice b5 m5 d5)))
     | ((with_reducible refine (HQ1 w4 _ _ _ _ _ _ A4.out D4.out BB.out).mono ?_);rintro ed w5 ⟨a5,n5,c5,b5,m5,d5,rfl,h5,g5,bw⟩;have BC:=hd_ (ab_ BB.out bw);have A5:=hd_ h5;have D5:=hd_ g5;clear h5 g5 bw qS qA;unfold frV;have qS:=ar_ SU.out BC.out;have qA:=fun o=>ar_ SU.out (ab_ BC.out (aa_ w5 o)))
     | (have ba:=aa_ w4 (.cells #[.bool false,.slice none 0 0,.slice none 0 0] 44);(with_reducible refine (HQ1 (w4.alloc (.cells #[.bool false,.slice none 0 0,.slice none 0 0] 44)) _ _ _ _ _ _ (A4.out.later ba) (D4.out.later ba) (ab_ BB.out ba)).mono ?_);rintro ed w5 ⟨a5,n5,c5,b5,m5,d5,rfl,h5,g5,bw⟩;have BC:=hd_ (ab_ (ab_ BB.out ba) bw);have Z5:=hd_ (ae_ (aj_ w4 #[.bool false,.slice none 0 0,.slice none 0 0] 44) bw);have hzb:wr.heap.size≤w4.heap.size:=BB.out.size;have A5:=hd_ h5;have D5:=hd_ g5;clear h5 g5 bw ba qS qA;unfold frV;obtain⟨z0,z1,z2⟩:=as_ Z5.out;have f0:=af_ Z5.out 0;have f1:=af_ Z5.out 1;have f2:=af_ Z5.out 2;have qS:=ar_ SU.out BC.out;have qA:=fun o=>ar_ SU.out (ab_ BC.out (aa_ w5 o));have qC:=ar_ SU.out (aw_ BC.out hzb (.bool (zneg per.num)) (.slice a5 n5 c5) (.slice b5 m5 d5))))))
  all_goals (
   go_wp2
   go_meet
   (first
     | exact⟨_,a5,n5,c5,b5,m5,d5,rfl,rfl,hd_ (bm_ Z5.out (.bool (zneg per.num)) (.slice a5 n5 c5) (.slice b5 m5 d5)),hd_ (A5.out.stored3 Z5.out (zneg per.num) a5 n5 c5 (.slice b5 m5 d5)),hd_ (D5.out.stored3 Z5.out (zneg per.num) a5 n5 c5 (.slice b5 m5 d5)),hd_ (aw_ BC.out hzb (.bool (zneg per.num)) (.slice a5 n5 c5) (.slice b5 m5 d5))⟩
     | exact⟨w5.heap.size,a5,n5,c5,b5,m5,d5,rfl,rfl,hd_ (aj_ w5 _ 44),hd_ (A5.out.later (aa_ w5 _)),hd_ (D5.out.later (aa_ w5 _)),hd_ (ab_ BC.out (aa_ w5 _))⟩))
 case rest=>
  obtain⟨g9,a9,n9,c9,b9,m9,d9,rfl,rfl,PB,PA,PD,HBc⟩:=hcut
  have hne:g9≠w.heap.size:=fun e9=>by
   have h1:=PB.out
   rw[e9,(ae_ R0.out HBc.out)] at h1
   simp at h1
  replace HB:=hd_ (ab_ HB.out HBc.out)
  replace R0:=hd_ (ae_ R0.out HBc.out)
  replace XR:=hd_ (XR.out.later HBc.out)
  replace YR:=hd_ (YR.out.later HBc.out)
  have ln9:n9≤900000000:=by rw[←PA.out.len];exact Nat.le_trans (bd_ _) (Nat.le_trans HPL9.out (by decide))
  have lm9:m9≤900000000:=by rw[←PD.out.len];exact Nat.le_trans (bc_ _) (Nat.le_trans HPL9.out (by decide))
  clear HBc SU HQ1 HO1 HZL HZ1 HPL9
  go_wp2
  replace HB:=bt_ HB (dw_ wc)
  replace PB:Hid (wc.drew.heap[g9]? = _):=hd_ PB.out
  replace R0:Hid (wc.drew.heap[w.heap.size]? = some (.cells #[.slice none 0 0,.slice none 0 0] 35 (0,0))):=hd_ R0.out
  replace XR:=XR.l_ (dw_ wc)
  replace YR:=YR.l_ (dw_ wc)
  replace PA:=PA.l_ (dw_ wc)
  replace PD:=PD.l_ (dw_ wc)
  have pSn:=as_ PB.out
  go_region_held3 (fun w'=>w'.cell? ⟨g9,0,none⟩=some (.bool (zneg per.num))∧w'.cell? ⟨g9,1,none⟩=some (.slice a9 n9 c9)∧w'.cell? ⟨g9,2,none⟩=some (.slice b9 m9 d9)) (first | exact pSn | exact pSb _ _)
   (first
   | (go_at_call 64;(first
     | (have pm1:=pM1;refine (HSY _ _ (Fr.right PA.out PD.out ln9 lm9) YR.out).mono ?_;rintro e wp2 ⟨a22,n22,c22,rfl,h22,b⟩;replace HB:=bt_ HB b;replace PB:=bl_ PB b;replace R0:=bl_ R0 b;replace XR:=XR.l_ b;replace YR:=YR.l_ b;replace PA:=PA.l_ b;replace PD:=PD.l_ b;replace P9:=P9.l_ b;have Q9:=hd_ h22;clear h22;obtain⟨r0,r1⟩:=bu_ R0.out;have e0:=af_ R0.out 0;have e1:=af_ R0.out 1;have pSb:=fun u v=>as_ (cv_ (g:=w.heap.size) PB.out hne u v);clear b;clear pSn;have pSn:=as_ PB.out;clear pM1 pm1;have pM2:=True.intro)
     | (refine (HSX _ _ (Fr.right PA.out PD.out ln9 lm9) XR.out).mono ?_;rintro e wp1 ⟨a21,n21,c21,rfl,h21,b⟩;replace HB:=bt_ HB b;replace PB:=bl_ PB b;replace R0:=bl_ R0 b;replace XR:=XR.l_ b;replace YR:=YR.l_ b;replace PA:=PA.l_ b;replace PD:=PD.l_ b;have P9:=hd_ h21;clear h21;clear b;clear pSn;have pSn:=as_ PB.out;have pM1:=True.intro))))
  have R9:=hd_ (bk_ R0.out (.slice a21 n21 c21) (.slice a22 n22 c22))
  replace P9:=hd_ (P9.out.boxed R0.out (.slice a21 n21 c21) (.slice a22 n22 c22))
  replace Q9:=hd_ (Q9.out.boxed R0.out (.slice a21 n21 c21) (.slice a22 n22 c22))
  have G9:=hd_ (a0_ HB.out (show w.heap.size≤w.heap.size by omega) (.slice a21 n21 c21) (.slice a22 n22 c22))
  go_wp2
  refine bodyPost_ret (bi_ Tryz.results13 _ _ (w.heap.size) 35 #[.slice a21 n21 c21,.slice a22 n22 c22] (0,0) _ rfl R9.out Tryz.underlying35 rfl (by kernel_rfl)) rfl ?_
  exact⟨a21,n21,c21,a22,n22,c22,rfl,P9.out,Q9.out,G9.out⟩
theorem f6_(S:PolySaid)(FS:FracSaid)(a:OA_)(n c:Nat)(b:OA_)(m d:Nat)(u v:LR_)(h s:Nat)(w:World)(hF:Fv w a n c b m d u v h s)(hk:Fok h s):Calls Tryz.prog 20 #[.agg #[.slice a n c,.slice b m d]] w (LstE u v w):=by
 obtain⟨U,V,hU,hV,hf,hz,_⟩:=hF
 have hfew:=kg_ hk
 have hs2:s+2≤1900000000:=by omega
 have HNEW:∃z:Value,∀w':World,Pv w' a n c U (s+2)→Pv w' b m d V (s+2)→Calls Tryz.prog 13 #[.slice a n c,.slice b m d] w' (LstEV u v z w'):=by
  by_cases hV0:plen V=0
  ·obtain⟨rfl,rfl⟩:=hf.zero (.inr hV0)
   exact⟨.bool false,fun w' g1 g2=>oi_ S FS a n c b m d V w' (g2.more hs2) (by rw[←g2.len];have:=hz.lv;have:=hk.2.1;omega) hV0⟩
  ·exact⟨.bool true,fun w' g1 g2=>no_ S FS a n c U b m d V u v h s w' (g1.more hs2) (g2.more hs2) hf hz hk hV0⟩
 obtain⟨z,HNE⟩:=HNEW
 have HB:=hd_ (ab_ (aa_ w (.cells #[.slice a n c,.slice b m d] 35)) (aa_ _ (.cells #[.slice none 0 0,.slice none 0 0] 35)))
 have X0:Hid (((w.alloc (.cells #[.slice a n c,.slice b m d] 35)).alloc (.cells #[.slice none 0 0,.slice none 0 0] 35)).heap[w.heap.size]? = some (.cells #[.slice a n c,.slice b m d] 35 (0,0))):=hd_ (ae_ (aj_ w _ _) (aa_ _ (.cells #[.slice none 0 0,.slice none 0 0] 35)))
 have R0:Hid (((w.alloc (.cells #[.slice a n c,.slice b m d] 35)).alloc (.cells #[.slice none 0 0,.slice none 0 0] 35)).heap[w.heap.size+1]? = some (.cells #[.slice none 0 0,.slice none 0 0] 35 (0,0))):=hd_ (by have h9:=aj_ (w.alloc (.cells #[.slice a n c,.slice b m d] 35)) #[.slice none 0 0,.slice none 0 0] 35;rwa [aq_] at h9)
 have A1:=hd_ (hU.later HB.out)
 have B1:=hd_ (hV.later HB.out)
 obtain⟨x0,x1⟩:=bu_ X0.out
 clear hU hV hf hz hk hfew hs2
 go_enter Tryz.func20,Tryz.ntmps20
 go_wp2_with fail
 refine (HNE _ A1.out B1.out).mono ?_
 rintro e w1 ⟨a1,n1,c1,b1,m1,d1,rfl,h1,g1,bw⟩
 clear x0 x1 HNE A1 B1 X0
 replace HB:=bt_ HB bw
 replace R0:=bl_ R0 bw
 have bb:=aa_ w1 (.cells #[.slice a1 n1 c1,.slice b1 m1 d1] 35)
 have N0:=hd_ (aj_ w1 #[.slice a1 n1 c1,.slice b1 m1 d1] 35)
 have P9:=h1.l_ bb
 have Q9:=g1.l_ bb
 replace HB:=bt_ HB bb
 replace R0:=bl_ R0 bb
 obtain⟨y0,y1⟩:=bu_ N0.out
 clear bw bb h1 g1
 obtain⟨r0,r1⟩:=bu_ R0.out
 have e0:=af_ R0.out 0
 have e1:=af_ R0.out 1
 have R9:=hd_ (bk_ R0.out (.slice a1 n1 c1) (.slice b1 m1 d1))
 replace P9:=hd_ (P9.out.boxed R0.out (.slice a1 n1 c1) (.slice b1 m1 d1))
 replace Q9:=hd_ (Q9.out.boxed R0.out (.slice a1 n1 c1) (.slice b1 m1 d1))
 have G9:=hd_ (a0_ HB.out (show w.heap.size≤w.heap.size+1 by omega) (.slice a1 n1 c1) (.slice b1 m1 d1))
 go_wp2
 refine bodyPost_ret (results_cell_row Tryz.results20 _ _ (w.heap.size+1) 35 #[.slice a1 n1 c1,.slice b1 m1 d1] (0,0) _ rfl R9.out Tryz.underlying35 rfl (by kernel_rfl)) rfl ?_
 exact⟨a1,n1,c1,b1,m1,d1,rfl,P9.out,Q9.out,G9.out⟩
def Sm (p:LR_) (h s:Nat):Prop:=p.length≤h∧∀q∈p,qlen q≤s+2
theorem Fz.fst{U V:List Rat}{h s:Nat}(f:Fz U V h s):Sm U h s:=⟨f.lu,f.qlen⟩
theorem Fz.snd{U V:List Rat}{h s:Nat}(f:Fz U V h s):Sm V h s:=⟨f.lv,f.swap.qlen⟩
theorem Rw.put{w:World}{a:Option Addr}{n c:Nat}{qs:List Rat}(h:Rw w a n c qs){g:Nat}{x y:Option Addr}{n1 c1 n2 c2:Nat}{t:TypeId}(hg:w.heap[g]? = some (.cells #[.slice x n1 c1,.slice y n2 c2] t (0,0)))(i:Nat)(u:Value) :
 Rw (w.setCell ⟨g,i,none⟩ u) a n c qs:=by
 obtain⟨L,h1,h2,h3⟩:=h
 exact⟨L,h1.aside (v:=.slice (some ⟨g,0,none⟩) 0 0) (cz_ hg gd_) (cq_ w g i u),h2,h3⟩
theorem qn_{w:World}{g:Nat}{x y:Value}{t:TypeId}(h:w.heap[g]? = some (.cells #[x,y] t (0,0)))(u:Value):(w.setCell ⟨g,0,none⟩ u).heap[g]? = some (.cells #[u,y] t (0,0)):=by simpa using e0_ h 0 u
theorem qc_{w:World}{g:Nat}{x y:Value}{t:TypeId}(h:w.heap[g]? = some (.cells #[x,y] t (0,0)))(u:Value):(w.setCell ⟨g,1,none⟩ u).heap[g]? = some (.cells #[x,u] t (0,0)):=by simpa using e0_ h 1 u
theorem ge_{w w1:World}{g:Nat}(h:Below w.heap.size w w1)(hg:w.heap.size≤g)(i:Nat)(u:Value):Below w.heap.size w (w1.setCell ⟨g,i,none⟩ u):=h.setCell (p:=⟨g,i,none⟩) hg u
theorem Pv.small{w:World}{a:Option Addr}{n c h s:Nat}{p:List Rat}(k:Rw w a n c p)(g:Sm p h s):Pv w a n c p (s+2):=Pv.right k g.2
theorem oj_{h s n N K:Nat}(hk:Pok h s)(hn:n≤h)(hN:N≤(s+1) * (2 * h)+2)(hK:K≤(s+1) * (2 * h)+2):(n+1) * (N+K+8)≤1900000000:=by
 refine Nat.le_trans ?_ hk.2
 have g1:(s+1) * (2 * h+1)=(s+1) * (2 * h)+(s+1):=by rw[Nat.mul_add,Nat.mul_one]
 have g2:(n+1) * (N+K+8)≤(h+1) * (2 * ((s+1) * (2 * h)+6)):=Nat.mul_le_mul (by omega) (by omega)
 have g3:(h+1) * (2 * ((s+1) * (2 * h)+6))=(2 * h+2) * ((s+1) * (2 * h)+6):=by rw[←Nat.mul_assoc,Nat.add_mul];congr 1;omega
 refine Nat.le_trans g2 ?_
 rw[g3]
 exact Nat.mul_le_mul (by omega) (by omega)
theorem pok_few{h s:Nat}(hk:Pok h s):24 * ((s+1) * (2 * h+1)+5)≤1900000000:=Nat.le_trans (Nat.mul_le_mul_right _ (by omega)) hk.2
theorem pl_{w:World}{a:Option Addr}{n c:Nat}{b:Option Addr}{m d:Nat}{u v:List Rat}{h s:Nat}(f:Fv w a n c b m d u v h s):Rf u v∧Fz u v h s∧1≤h:=by
 obtain⟨U,V,_,_,hf,_,hz⟩:=f
 have h1:=hf.1.v0
 have h2:=a6_ v
 have h3:=hz.lv
 exact⟨hf.1,hz,by omega⟩
theorem pq_(S:PolySaid)(FS:FracSaid)(a:OA_)(n c:Nat)(b:OA_)(m d:Nat)(u v:LR_)(h s:Nat)(a':OA_)(n' c':Nat)(b':OA_)(m' d':Nat)(x y:LR_)(k t:Nat)(w:World)(hA:Fv w a n c b m d u v h s)(hB:Fv w a' n' c' b' m' d' x y k t)(hk:Fok2 h s k t):Calls Tryz.prog 38 #[.agg #[.slice a n c,.slice b m d],.agg #[.slice a' n' c',.slice b' m' d']] w (LstF (pmul u x) (pmul v y) w):=by
 obtain⟨hu,fu,h1⟩:=pl_ hA
 obtain⟨hx,fx,k1⟩:=pl_ hB
 have HNA:∀w':World,Fv w' a n c b m d u v h s→Calls Tryz.prog 20 #[.agg #[.slice a n c,.slice b m d]] w' (LstE u v w'):=fun w' g=>f6_ S FS a n c b m d u v (h+2) s w' (g.mono (by omega) (Nat.le_refl _)) (hk.1.less (by omega) (by omega) (by omega))
 have HNB:∀w':World,Fv w' a' n' c' b' m' d' x y k t→Calls Tryz.prog 20 #[.agg #[.slice a' n' c',.slice b' m' d']] w' (LstE x y w'):=fun w' g=>f6_ S FS a' n' c' b' m' d' x y (k+2) t w' (g.mono (by omega) (Nat.le_refl _)) (hk.1.less (by omega) (by omega) (by omega))
 have hk2:=hk.2
 obtain⟨H,hH⟩:∃H,max h k=H:=⟨_,rfl⟩
 rw[hH] at hk2
 have hH1:1≤H:=by omega
 have hS9:s+t≤(s+t+1) * (2 * H+1):=Nat.le_trans (Nat.le_succ _) (Nat.le_mul_of_pos_right _ (by omega))
 have hk0:Pok H (s+t):=hk2.less (by omega) (by omega)
 have hfew:=pok_few hk0
 have hKs:(s+t+1) * (2 * H+1)=(s+t+1) * (2 * H)+(s+t+1):=by rw[Nat.mul_add,Nat.mul_one]
 have hst:s+t+2≤1900000000:=by omega
 have fuy:Fz u y H (s+t):=by rw[←hH];exact fu.pair fx.swap
 have fxv:Fz x v H (s+t):=by rw[←hH,Nat.max_comm,Nat.add_comm];exact fx.pair fu.swap
 obtain⟨KK,hKK⟩:∃K,(s+t+1) * (2 * H+1)+2=K:=⟨_,rfl⟩
 have HPN:∀(U V:LR_),Fz U V H (s+t)→Mon1 V→∀(w':World) (a3:OA_) (n3 c3:Nat) (b3:OA_) (m3 d3:Nat),Rw w' a3 n3 c3 U→Rw w' b3 m3 d3 V→Calls Tryz.prog 62 #[.slice a3 n3 c3,.slice b3 m3 d3] w' (jg_ U V H KK w'):=fun U V f9 hV w' a3 n3 c3 b3 m3 d3 g1 g2=>hKK▸fp_ S a3 n3 c3 U b3 m3 d3 V H (s+t) w' ((Pv.small g1 f9.fst).more hst) ((Pv.small g2 f9.snd).more hst) f9 hk0 hV.1
 have HP1:=HPN u y fuy hx.monic
 have HP2:=HPN x v fxv hu.monic
 have HMU:∀(w':World) (a3:OA_) (n3 c3:Nat) (p:LR_) (a4:OA_) (n4 c4:Nat) (q:LR_),Rw w' a3 n3 c3 p→Rw w' a4 n4 c4 q→Sm p H ((s+t+1) * (2 * H))→Sm q H ((s+t+1) * (2 * H))→Calls Tryz.prog 75 #[.slice a3 n3 c3,.slice a4 n4 c4] w' (ds_ (ai_ (pmul p q)) w'):=fun w' a3 n3 c3 p a4 n4 c4 q g1 g2 g3 g4=>k3_ S (Pv.small g1 g3) (Pv.small g2 g4) (by rw[←g1.len];have:=g3.1;have:=hk0.1;omega) (by rw[←g2.len];have:=g4.1;have:=hk0.1;omega) (oj_ hk0 (by rw[←g1.len];exact g3.1) (Nat.le_refl _) (Nat.le_refl _))
 have HS1:Hid (∀u1 y1 g,PartP u y H KK u1 y1 g→Sm u1 H ((s+t+1) * (2 * H))∧Sm y1 H ((s+t+1) * (2 * H))):=hd_ (fun u1 y1 g p=>⟨(fuy.right (p.isF hx.monic) hH1 (by have:=hk0.1;omega)).fst,(fuy.right (p.isF hx.monic) hH1 (by have:=hk0.1;omega)).snd⟩)
 have HS2:Hid (∀x1 v1 g,PartP x v H KK x1 v1 g→Sm x1 H ((s+t+1) * (2 * H))∧Sm v1 H ((s+t+1) * (2 * H))):=hd_ (fun u1 y1 g p=>⟨(fxv.right (p.isF hu.monic) hH1 (by have:=hk0.1;omega)).fst,(fxv.right (p.isF hu.monic) hH1 (by have:=hk0.1;omega)).snd⟩)
 have HEN:Hid (∀u1 y1 g x1 v1 g',PartP u y H KK u1 y1 g→PartP x v H KK x1 v1 g'→isF (pmul u x) (pmul v y) (ai_ (pmul u1 x1)) (ai_ (pmul v1 y1))):=hd_ (fun u1 y1 g x1 v1 g' p p'=>isF_mul hu hx p p' (au_ _) (a9_ _) (au_ _) (a9_ _))
 generalize (s+t+1) * (2 * H)=RR at HMU HS1 HS2
 have HB:=hd_ (ab_ (ab_ (aa_ w (.cells #[.slice a n c,.slice b m d] 35)) (aa_ _ (.cells #[.slice a' n' c',.slice b' m' d'] 35))) (aa_ _ (.cells #[.slice none 0 0,.slice none 0 0] 35)))
 have X0:Hid ((((w.alloc (.cells #[.slice a n c,.slice b m d] 35)).alloc (.cells #[.slice a' n' c',.slice b' m' d'] 35)).alloc (.cells #[.slice none 0 0,.slice none 0 0] 35)).heap[w.heap.size]? = some (.cells #[.slice a n c,.slice b m d] 35 (0,0))):=hd_ (ae_ (ae_ (aj_ w _ _) (aa_ _ (.cells #[.slice a' n' c',.slice b' m' d'] 35))) (aa_ _ (.cells #[.slice none 0 0,.slice none 0 0] 35)))
 have X1:Hid ((((w.alloc (.cells #[.slice a n c,.slice b m d] 35)).alloc (.cells #[.slice a' n' c',.slice b' m' d'] 35)).alloc (.cells #[.slice none 0 0,.slice none 0 0] 35)).heap[w.heap.size+1]? = some (.cells #[.slice a' n' c',.slice b' m' d'] 35 (0,0))):=hd_ (ae_ (by have h9:=aj_ (w.alloc (.cells #[.slice a n c,.slice b m d] 35)) #[.slice a' n' c',.slice b' m' d'] 35;rwa [aq_] at h9) (aa_ _ (.cells #[.slice none 0 0,.slice none 0 0] 35)))
 have R0:Hid ((((w.alloc (.cells #[.slice a n c,.slice b m d] 35)).alloc (.cells #[.slice a' n' c',.slice b' m' d'] 35)).alloc (.cells #[.slice none 0 0,.slice none 0 0] 35)).heap[w.heap.size+1+1]? = some (.cells #[.slice none 0 0,.slice none 0 0] 35 (0,0))):=hd_ (by have h9:=aj_ ((w.alloc (.cells #[.slice a n c,.slice b m d] 35)).alloc (.cells #[.slice a' n' c',.slice b' m' d'] 35)) #[.slice none 0 0,.slice none 0 0] 35;rwa [aq_,aq_] at h9)
 have FA:=hd_ (hA.later HB.out)
 have FB:=hd_ (hB.later HB.out)
 clear hA hB hk hk2 hk0 hH hH1 hS9 hu fu h1 hx fx k1 hfew hKs hst fuy fxv hKK HPN
 go_enter Tryz.func38,Tryz.ntmps38
 go_upto_region 1 with fail
 go_cut [9] from 5 to 8 (fun _ wx=>∃(a1:OA_) (n1 c1:Nat) (b1:OA_) (m1 d1:Nat) (a2:OA_) (n2 c2:Nat) (b2:OA_) (m2 d2:Nat),Hid (wx.heap[w.heap.size]? = some (.cells #[.slice a1 n1 c1,.slice b1 m1 d1] 35 (0,0)))∧Hid (wx.heap[w.heap.size+1]? = some (.cells #[.slice a2 n2 c2,.slice b2 m2 d2] 35 (0,0)))∧Hid (wx.heap[w.heap.size+1+1]? = some (.cells #[.slice none 0 0,.slice none 0 0] 35 (0,0)))∧Hid (Rw wx a1 n1 c1 u)∧Hid (Rw wx b1 m1 d1 v)∧Hid (Rw wx a2 n2 c2 x)∧Hid (Rw wx b2 m2 d2 y)∧Hid (Below w.heap.size w wx))
 case first=>
  obtain⟨x0,x1,x2,x3⟩:=ay_ X0.out X1.out
  go_wp2
  clear x0 x1 x2 x3
  generalize (((w.alloc (.cells #[.slice a n c,.slice b m d] 35)).alloc (.cells #[.slice a' n' c',.slice b' m' d'] 35)).alloc (.cells #[.slice none 0 0,.slice none 0 0] 35))=W at *
  replace HB:=bt_ HB (dw_ W)
  replace X0:Hid (W.drew.heap[w.heap.size]? = _):=hd_ X0.out
  replace X1:Hid (W.drew.heap[w.heap.size+1]? = _):=hd_ X1.out
  replace R0:Hid (W.drew.heap[w.heap.size+1+1]? = some (.cells #[.slice none 0 0,.slice none 0 0] 35 (0,0))):=hd_ R0.out
  replace FA:=FA.l_ (dw_ W)
  replace FB:=FB.l_ (dw_ W)
  obtain⟨pk0,pk1,pk2,pk3⟩:=ay_ X0.out X1.out
  first | go_region_with (first
   | (go_at_call 20;(first
     | (have pm1:=pM1;refine (HNB _ FB.out).mono ?_;rintro e wp2 ⟨a2,n2,c2,b2,m2,d2,rfl,h2,g2,b⟩;replace HB:=bt_ HB b;replace X0:=bl_ X0 b;replace X1:=bl_ X1 b;replace R0:=bl_ R0 b;replace FA:=FA.l_ b;replace FB:=FB.l_ b;replace P1:=P1.l_ b;replace Q1:=Q1.l_ b;have P2:=hd_ h2;have Q2:=hd_ g2;clear h2 g2;have e0:=af_ X0.out 0;have e1:=af_ X0.out 1;have e2:=af_ X1.out 0;have e3:=af_ X1.out 1;clear b;obtain⟨pk0,pk1,pk2,pk3⟩:=ay_ X0.out X1.out;clear pM1 pm1;have pM2:=True.intro)
     | (refine (HNA _ FA.out).mono ?_;rintro e wp1 ⟨a1,n1,c1,b1,m1,d1,rfl,h1,g1,b⟩;replace HB:=bt_ HB b;replace X0:=bl_ X0 b;replace X1:=bl_ X1 b;replace R0:=bl_ R0 b;replace FA:=FA.l_ b;replace FB:=FB.l_ b;have P1:=hd_ h1;have Q1:=hd_ g1;clear h1 g1;clear b;obtain⟨pk0,pk1,pk2,pk3⟩:=ay_ X0.out X1.out;have pM1:=True.intro)))) | fail
  all_goals (
   have Y1:=hd_ (cv_ (g:=w.heap.size) X1.out (show w.heap.size+1≠w.heap.size by omega) (.slice a1 n1 c1) (.slice b1 m1 d1))
   have Y0:=hd_ (cv_ (g:=w.heap.size+1) (bk_ X0.out (.slice a1 n1 c1) (.slice b1 m1 d1)) (show w.heap.size≠w.heap.size+1 by omega) (.slice a2 n2 c2) (.slice b2 m2 d2))
   have YR:=hd_ (cv_ (g:=w.heap.size+1) (cv_ (g:=w.heap.size) R0.out (show w.heap.size+1+1≠w.heap.size by omega) (.slice a1 n1 c1) (.slice b1 m1 d1)) (show w.heap.size+1+1≠w.heap.size+1 by omega) (.slice a2 n2 c2) (.slice b2 m2 d2))
   have G9:=hd_ (a0_ (a0_ HB.out (show w.heap.size≤w.heap.size by omega) (.slice a1 n1 c1) (.slice b1 m1 d1)) (show w.heap.size≤w.heap.size+1 by omega) (.slice a2 n2 c2) (.slice b2 m2 d2))
   have Z1:=hd_ ((P1.out.boxed X0.out (.slice a1 n1 c1) (.slice b1 m1 d1)).boxed Y1.out (.slice a2 n2 c2) (.slice b2 m2 d2))
   have Z2:=hd_ ((Q1.out.boxed X0.out (.slice a1 n1 c1) (.slice b1 m1 d1)).boxed Y1.out (.slice a2 n2 c2) (.slice b2 m2 d2))
   have Z3:=hd_ ((P2.out.boxed X0.out (.slice a1 n1 c1) (.slice b1 m1 d1)).boxed Y1.out (.slice a2 n2 c2) (.slice b2 m2 d2))
   have Z4:=hd_ ((Q2.out.boxed X0.out (.slice a1 n1 c1) (.slice b1 m1 d1)).boxed Y1.out (.slice a2 n2 c2) (.slice b2 m2 d2))
   have Y2:=hd_ (bk_ Y1.out (.slice a2 n2 c2) (.slice b2 m2 d2))
   go_wp2
   go_meet
   exact⟨a1,n1,c1,b1,m1,d1,a2,n2,c2,b2,m2,d2,Y0,Y2,YR,Z1,Z2,Z3,Z4,G9⟩)
 case rest=>
  obtain⟨a1,n1,c1,b1,m1,d1,a2,n2,c2,b2,m2,d2,Y0,Y1,YR,U1,V1,U2,V2,HBc⟩:=hcut
  clear X0 X1 R0 FA FB HNA HNB HB
  obtain⟨x0,x1,x2,x3⟩:=ay_ Y0.out Y1.out
  go_wp2_with fail
  refine (HP1 _ _ _ _ _ _ _ U1.out V2.out).mono ?_
  rintro e w3 ⟨a3,n3,c3,u1,a4,n4,c4,y1,a5,n5,c5,g1,rfl,h3,h4,h5,p1,bw⟩
  clear x0 x1 x2 x3 h5 HP1
  replace HBc:=bt_ HBc bw
  replace Y0:=bl_ Y0 bw
  replace Y1:=bl_ Y1 bw
  replace YR:=bl_ YR bw
  obtain⟨q0,q1,q2,q3⟩:=ay_ Y0.out Y1.out
  have e0:=af_ Y0.out 0
  have e1:=af_ Y1.out 1
  have Z1:=hd_ (b0_ (g:=w.heap.size) Y1.out (show w.heap.size+1≠w.heap.size by omega) 0 (.slice a3 n3 c3))
  have e2:=af_ Z1.out 1
  have Z0:=hd_ (b0_ (g:=w.heap.size+1) (qn_ Y0.out (.slice a3 n3 c3)) (show w.heap.size≠w.heap.size+1 by omega) 1 (.slice a4 n4 c4))
  have ZR:=hd_ (b0_ (g:=w.heap.size+1) (b0_ (g:=w.heap.size) YR.out (show w.heap.size+1+1≠w.heap.size by omega) 0 (.slice a3 n3 c3)) (show w.heap.size+1+1≠w.heap.size+1 by omega) 1 (.slice a4 n4 c4))
  have U3:=hd_ ((h3.put Y0.out 0 (.slice a3 n3 c3)).put Z1.out 1 (.slice a4 n4 c4))
  have U4:=hd_ ((h4.put Y0.out 0 (.slice a3 n3 c3)).put Z1.out 1 (.slice a4 n4 c4))
  replace V1:=hd_ (((V1.out.later bw).put Y0.out 0 (.slice a3 n3 c3)).put Z1.out 1 (.slice a4 n4 c4))
  replace U2:=hd_ (((U2.out.later bw).put Y0.out 0 (.slice a3 n3 c3)).put Z1.out 1 (.slice a4 n4 c4))
  replace HBc:=hd_ (ge_ (ge_ HBc.out (show w.heap.size≤w.heap.size by omega) 0 (.slice a3 n3 c3)) (show w.heap.size≤w.heap.size+1 by omega) 1 (.slice a4 n4 c4))
  replace Z1:=hd_ (qc_ Z1.out (.slice a4 n4 c4))
  clear Y0 Y1 YR U1 V2 h3 h4 bw
  obtain⟨x0,x1,x2,x3⟩:=ay_ Z0.out Z1.out
  go_wp2_with fail
  refine (HP2 _ _ _ _ _ _ _ U2.out V1.out).mono ?_
  rintro e w4 ⟨a6,n6,c6,x1',a7,n7,c7,v1',a8,n8,c8,g2,rfl,h3,h4,h5,p2,bw⟩
  clear x0 x1 x2 x3 h5 HP2 e0 e1 e2 q0 q1 q2 q3
  replace HBc:=bt_ HBc bw
  replace Z0:=bl_ Z0 bw
  replace Z1:=bl_ Z1 bw
  replace ZR:=bl_ ZR bw
  obtain⟨q0,q1,q2,q3⟩:=ay_ Z0.out Z1.out
  have e0:=af_ Z1.out 0
  have e1:=af_ Z0.out 1
  have X0:=hd_ (b0_ (g:=w.heap.size+1) Z0.out (show w.heap.size≠w.heap.size+1 by omega) 0 (.slice a6 n6 c6))
  have e2:=af_ X0.out 1
  have X1:=hd_ (b0_ (g:=w.heap.size) (qn_ Z1.out (.slice a6 n6 c6)) (show w.heap.size+1≠w.heap.size by omega) 1 (.slice a7 n7 c7))
  have R0:=hd_ (b0_ (g:=w.heap.size) (b0_ (g:=w.heap.size+1) ZR.out (show w.heap.size+1+1≠w.heap.size+1 by omega) 0 (.slice a6 n6 c6)) (show w.heap.size+1+1≠w.heap.size by omega) 1 (.slice a7 n7 c7))
  have A6:=hd_ ((h3.put Z1.out 0 (.slice a6 n6 c6)).put X0.out 1 (.slice a7 n7 c7))
  have A7:=hd_ ((h4.put Z1.out 0 (.slice a6 n6 c6)).put X0.out 1 (.slice a7 n7 c7))
  have A3:=hd_ (((U3.out.later bw).put Z1.out 0 (.slice a6 n6 c6)).put X0.out 1 (.slice a7 n7 c7))
  have A4:=hd_ (((U4.out.later bw).put Z1.out 0 (.slice a6 n6 c6)).put X0.out 1 (.slice a7 n7 c7))
  have HB:=hd_ (ge_ (ge_ HBc.out (show w.heap.size≤w.heap.size+1 by omega) 0 (.slice a6 n6 c6)) (show w.heap.size≤w.heap.size by omega) 1 (.slice a7 n7 c7))
  replace X0:=hd_ (qc_ X0.out (.slice a7 n7 c7))
  have HM1:=fun (w':World) (g1:Rw w' a3 n3 c3 u1) (g2:Rw w' a6 n6 c6 x1')=>HMU w' a3 n3 c3 u1 a6 n6 c6 x1' g1 g2 (HS1.out _ _ _ p1).1 (HS2.out _ _ _ p2).1
  have HM2:=fun (w':World) (g1:Rw w' a7 n7 c7 v1') (g2:Rw w' a4 n4 c4 y1)=>HMU w' a7 n7 c7 v1' a4 n4 c4 y1 g1 g2 (HS2.out _ _ _ p2).2 (HS1.out _ _ _ p1).2
  have KF:=hd_ (HEN.out _ _ _ _ _ _ p1 p2)
  generalize ai_ (pmul u1 x1')=pu at *
  generalize ai_ (pmul v1' y1)=pv at *
  clear Z0 Z1 ZR U2 V1 U3 U4 h3 h4 bw HBc p1 p2 HMU HS1 HS2 HEN
  go_wp2
  clear q0 q1 q2 q3 e0 e1 e2
  generalize ((w4.setCell ⟨w.heap.size+1,0,none⟩ (.slice a6 n6 c6)).setCell ⟨w.heap.size,1,none⟩ (.slice a7 n7 c7))=W at *
  replace HB:=bt_ HB (dw_ W)
  replace X0:Hid (W.drew.heap[w.heap.size]? = _):=hd_ X0.out
  replace X1:Hid (W.drew.heap[w.heap.size+1]? = _):=hd_ X1.out
  replace R0:Hid (W.drew.heap[w.heap.size+1+1]? = some (.cells #[.slice none 0 0,.slice none 0 0] 35 (0,0))):=hd_ R0.out
  replace A3:=A3.l_ (dw_ W)
  replace A4:=A4.l_ (dw_ W)
  replace A6:=A6.l_ (dw_ W)
  replace A7:=A7.l_ (dw_ W)
  have pSn:=ay_ X0.out X1.out
  go_region_held3 (fun w'=>w'.cell? ⟨w.heap.size,0,none⟩=some (.slice a3 n3 c3)∧w'.cell? ⟨w.heap.size,1,none⟩=some (.slice a7 n7 c7)∧w'.cell? ⟨w.heap.size+1,0,none⟩=some (.slice a6 n6 c6)∧w'.cell? ⟨w.heap.size+1,1,none⟩=some (.slice a4 n4 c4)) (first | exact pSn | exact pSb _ _)
   (first
   | (go_at_call 75;(first
     | (have pm1:=pM1;refine (HM2 _ A7.out A4.out).mono ?_;rintro e wp2 ⟨a22,n22,c22,rfl,h22,b⟩;replace HB:=bt_ HB b;replace X0:=bl_ X0 b;replace X1:=bl_ X1 b;replace R0:=bl_ R0 b;replace A3:=A3.l_ b;replace A4:=A4.l_ b;replace A6:=A6.l_ b;replace A7:=A7.l_ b;replace P9:=P9.l_ b;have Q9:=hd_ h22;clear h22;obtain⟨r0,r1⟩:=bu_ R0.out;have e0:=af_ R0.out 0;have e1:=af_ R0.out 1;have pSb:=fun u v=>ay_ (cv_ (g:=w.heap.size+1+1) X0.out (by omega) u v) (cv_ (g:=w.heap.size+1+1) X1.out (by omega) u v);clear b;clear pSn;have pSn:=ay_ X0.out X1.out;clear pM1 pm1;have pM2:=True.intro)
     | (refine (HM1 _ A3.out A6.out).mono ?_;rintro e wp1 ⟨a21,n21,c21,rfl,h21,b⟩;replace HB:=bt_ HB b;replace X0:=bl_ X0 b;replace X1:=bl_ X1 b;replace R0:=bl_ R0 b;replace A3:=A3.l_ b;replace A4:=A4.l_ b;replace A6:=A6.l_ b;replace A7:=A7.l_ b;have P9:=hd_ h21;clear h21;clear b;clear pSn;have pSn:=ay_ X0.out X1.out;have pM1:=True.intro))))
  have R9:=hd_ (bk_ R0.out (.slice a21 n21 c21) (.slice a22 n22 c22))
  replace P9:=hd_ (P9.out.boxed R0.out (.slice a21 n21 c21) (.slice a22 n22 c22))
  replace Q9:=hd_ (Q9.out.boxed R0.out (.slice a21 n21 c21) (.slice a22 n22 c22))
  have G9:=hd_ (a0_ HB.out (show w.heap.size≤w.heap.size+1+1 by omega) (.slice a21 n21 c21) (.slice a22 n22 c22))
  go_wp2
  refine bodyPost_ret (results_cell_row Tryz.results38 _ _ (w.heap.size+1+1) 35 #[.slice a21 n21 c21,.slice a22 n22 c22] (0,0) _ rfl R9.out Tryz.underlying35 rfl (by kernel_rfl)) rfl ?_
  exact⟨a21,n21,c21,pu,a22,n22,c22,pv,rfl,P9.out,Q9.out,KF.out,G9.out⟩
theorem add_size{u v x y x1 y1 g up:List Rat}{H s t h k KK:Nat}(fu:Fz u v h s)(fx:Fz x y k t)(hH:max h k=H)(p:PartP v y H KK x1 y1 g)(f1:Fz x1 y1 H ((s+t+1) * (2 * H)))(hKK:(s+t+1) * (2 * H+1)+2=KK)(hH9:H≤1000)(hup:up=ai_ (padd (ai_ (pmul u y1)) (ai_ (pmul x x1)))) :
 Fz up g (2 * H) (2 * ((s+t+1) * (2 * H+1))+3):=by
 have f2:Fz u x H (s+t):=by rw[←hH];exact fu.pair fx
 have f3:=(f2.add f1 (by omega) (by omega)).norms
 have f4:=f3.pair p.sz
 have e:ai_ (padd (pmul u y1) (pmul x1 x))=up:=by
  rw[hup]
  exact bn_ (c1_ (au_ _).symm ((kf_ x1 x).trans (au_ _).symm))
 rw[e] at f4
 have e2:(s+t+1) * (2 * H+1)=(s+t+1) * (2 * H)+(s+t+1):=by rw[Nat.mul_add,Nat.mul_one]
 exact f4.mono (by omega) (by omega)
theorem ki_{p q:List Rat}{H R N:Nat}(hp:Sm p H R)(hq:Sm q H R)(hN:1+H * (2 * R+7)≤N):∀z∈ai_ (pmul p q),qlen z≤N:=fun z hz=>by
 have h1:=ko_ (A:=R+2) (B:=R+2) (by omega) (by omega) hp.2 hq.2 z hz
 have h2:p.length * (R+2+(R+2)+3)≤H * (2 * R+7):=Nat.mul_le_mul hp.1 (by omega)
 omega
theorem j1_{p q:List Rat}{H R:Nat}(hp:Sm p H R)(hq:Sm q H R):(ai_ (pmul p q)).length≤2 * H:=by
 have h1:=bf_ (pmul p q)
 have h2:=c7_ p q
 have:=hp.1
 have:=hq.1
 omega
theorem py_(S:PolySaid)(FS:FracSaid)(a:OA_)(n c:Nat)(b:OA_)(m d:Nat)(u v:LR_)(h s:Nat)(a':OA_)(n' c':Nat)(b':OA_)(m' d':Nat)(x y:LR_)(k t:Nat)(w:World)(hA:Fv w a n c b m d u v h s)(hB:Fv w a' n' c' b' m' d' x y k t)(hk:Fok2 h s k t):Calls Tryz.prog 35 #[.agg #[.slice a n c,.slice b m d],.agg #[.slice a' n' c',.slice b' m' d']] w (LstF (padd (pmul u y) (pmul x v)) (pmul v y) w):=by
 obtain⟨hu,fu,h1⟩:=pl_ hA
 obtain⟨hx,fx,k1⟩:=pl_ hB
 have HNA:∀w':World,Fv w' a n c b m d u v h s→Calls Tryz.prog 20 #[.agg #[.slice a n c,.slice b m d]] w' (LstE u v w'):=fun w' g=>f6_ S FS a n c b m d u v (h+2) s w' (g.mono (by omega) (Nat.le_refl _)) (hk.1.less (by omega) (by omega) (by omega))
 have HNB:∀w':World,Fv w' a' n' c' b' m' d' x y k t→Calls Tryz.prog 20 #[.agg #[.slice a' n' c',.slice b' m' d']] w' (LstE x y w'):=fun w' g=>f6_ S FS a' n' c' b' m' d' x y (k+2) t w' (g.mono (by omega) (Nat.le_refl _)) (hk.1.less (by omega) (by omega) (by omega))
 have hk2:=hk.2
 obtain⟨H,hH⟩:∃H,max h k=H:=⟨_,rfl⟩
 rw[hH] at hk2
 have hH1:1≤H:=by omega
 have hS9:s+t≤(s+t+1) * (2 * H+1):=Nat.le_trans (Nat.le_succ _) (Nat.le_mul_of_pos_right _ (by omega))
 have hk0:Pok H (s+t):=hk2.less (by omega) (by omega)
 have hfew:=pok_few hk2
 have hKs:(s+t+1) * (2 * H+1)=(s+t+1) * (2 * H)+(s+t+1):=by rw[Nat.mul_add,Nat.mul_one]
 have hfar:(2 * ((s+t+1) * (2 * H+1))+3+1) * (2 * (2 * H)+1)=(2 * ((s+t+1) * (2 * H+1))+4) * (4 * H)+(2 * ((s+t+1) * (2 * H+1))+4):=by rw[Nat.mul_add,Nat.mul_one,show 2 * (2 * H)=4 * H by omega]
 have hroom:1+H * (2 * ((s+t+1) * (2 * H))+7)≤(2 * ((s+t+1) * (2 * H+1))+4) * (4 * H):=by
  have e1:H * (2 * ((s+t+1) * (2 * H))+7)≤H * (2 * (2 * ((s+t+1) * (2 * H+1))+4)+3):=Nat.mul_le_mul_left _ (by omega)
  have e2:(2 * ((s+t+1) * (2 * H+1))+4) * (4 * H)=H * (4 * (2 * ((s+t+1) * (2 * H+1))+4)):=by rw[Nat.mul_comm,Nat.mul_comm 4 H,Nat.mul_assoc]
  have e3:H * (2 * (2 * ((s+t+1) * (2 * H+1))+4)+3+1)≤H * (4 * (2 * ((s+t+1) * (2 * H+1))+4)):=Nat.mul_le_mul_left _ (by omega)
  have e4:=Nat.mul_add H (2 * (2 * ((s+t+1) * (2 * H+1))+4)+3) 1
  omega
 have hst:s+t+2≤1900000000:=by omega
 have fvy:Fz v y H (s+t):=by rw[←hH];exact fu.swap.pair fx.swap
 obtain⟨KK,hKK⟩:∃K,(s+t+1) * (2 * H+1)+2=K:=⟨_,rfl⟩
 have HPN:∀(U V:LR_),Fz U V H (s+t)→Mon1 V→∀(w':World) (a3:OA_) (n3 c3:Nat) (b3:OA_) (m3 d3:Nat),Rw w' a3 n3 c3 U→Rw w' b3 m3 d3 V→Calls Tryz.prog 62 #[.slice a3 n3 c3,.slice b3 m3 d3] w' (jg_ U V H KK w'):=fun U V f9 hV w' a3 n3 c3 b3 m3 d3 g1 g2=>hKK▸fp_ S a3 n3 c3 U b3 m3 d3 V H (s+t) w' ((Pv.small g1 f9.fst).more hst) ((Pv.small g2 f9.snd).more hst) f9 hk0 hV.1
 have HP1:=HPN v y fvy hx.monic
 obtain⟨RR,hRR⟩:∃R,(s+t+1) * (2 * H)=R:=⟨_,rfl⟩
 have hsR:s+t≤RR:=by rw[←hRR];exact Nat.le_trans (Nat.le_succ _) (Nat.le_mul_of_pos_right _ (by omega))
 have HSX:Hid (∀x1 y1 g,PartP v y H KK x1 y1 g→Fz x1 y1 H RR):=hd_ (fun x1 y1 g p=>hRR▸fvy.right (p.isF hx.monic) hH1 (by have:=hk0.1;omega))
 have HU:Hid (Sm u H RR∧Sm x H RR):=hd_ ⟨(fu.mono (show h≤H by omega) (show s≤RR by omega)).fst,(fx.mono (show k≤H by omega) (show t≤RR by omega)).fst⟩
 have HMU:∀(w':World) (a3:OA_) (n3 c3:Nat) (p:LR_) (a4:OA_) (n4 c4:Nat) (q:LR_),Rw w' a3 n3 c3 p→Rw w' a4 n4 c4 q→Sm p H RR→Sm q H RR→Calls Tryz.prog 75 #[.slice a3 n3 c3,.slice a4 n4 c4] w' (ds_ (ai_ (pmul p q)) w'):=fun w' a3 n3 c3 p a4 n4 c4 q g1 g2 g3 g4=>k3_ S (Pv.small g1 g3) (Pv.small g2 g4) (by rw[←g1.len];have:=g3.1;have:=hk0.1;omega) (by rw[←g2.len];have:=g4.1;have:=hk0.1;omega) (oj_ hk0 (by rw[←g1.len];exact g3.1) (by omega) (by omega))
 have HAD:∀(p q p' q':LR_),Sm p H RR→Sm q H RR→Sm p' H RR→Sm q' H RR→∀(w':World) (a3:OA_) (n3 c3:Nat) (a4:OA_) (n4 c4:Nat),Rw w' a3 n3 c3 (ai_ (pmul p q))→Rw w' a4 n4 c4 (ai_ (pmul p' q'))→Calls Tryz.prog 83 #[.slice a3 n3 c3,.slice a4 n4 c4] w' (ds_ (ai_ (padd (ai_ (pmul p q)) (ai_ (pmul p' q')))) w'):=fun p q p' q' g1 g2 g3 g4 w' a3 n3 c3 a4 n4 c4 k1 k2=>add_pv S (Pv.right k1 (ki_ (N:=900000000) g1 g2 (by rw[←hRR];omega))) (Pv.right k2 (ki_ (N:=900000000) g3 g4 (by rw[←hRR];omega))) (by rw[←k1.len];have:=j1_ g1 g2;have:=hk2.1;omega) (by rw[←k2.len];have:=j1_ g3 g4;have:=hk2.1;omega) (Nat.le_refl _) (Nat.le_refl _)
 obtain⟨S2,hS2⟩:∃K,2 * ((s+t+1) * (2 * H+1))+3=K:=⟨_,rfl⟩
 have HSZ:Hid (∀x1 y1 g up,PartP v y H KK x1 y1 g→up=ai_ (padd (ai_ (pmul u y1)) (ai_ (pmul x x1)))→Fz up g (2 * H) S2∧Mon1 g):=hd_ (fun x1 y1 g up p e=>⟨hS2▸add_size fu fx hH p (by rw[hRR];exact HSX.out _ _ _ p) hKK (by have:=hk0.1;omega) e,p.gcd.monic (p.g0 hx.monic.1)⟩)
 have HP2:∀(up g:LR_),Fz up g (2 * H) S2→Mon1 g→∀(w':World) (a3:OA_) (n3 c3:Nat) (b3:OA_) (m3 d3:Nat),Rw w' a3 n3 c3 up→Rw w' b3 m3 d3 g→Calls Tryz.prog 62 #[.slice a3 n3 c3,.slice b3 m3 d3] w' (jg_ up g (2 * H) ((S2+1) * (2 * (2 * H)+1)+2) w'):=fun up g f9 hg w' a3 n3 c3 b3 m3 d3 g1 g2=>fp_ S a3 n3 c3 up b3 m3 d3 g (2 * H) S2 w' ((Pv.small g1 f9.fst).more (by omega)) ((Pv.small g2 f9.snd).more (by omega)) f9 (hS2▸hk2) hg.1
 have HM5:∀(x1 y1 up g up2 g2 q:LR_) (K2:Nat),Fz x1 y1 H RR→Fz up g (2 * H) S2→Mon1 g→PartP up g (2 * H) K2 up2 g2 q→∀(w':World) (a3:OA_) (n3 c3:Nat) (a4:OA_) (n4 c4:Nat),Rw w' a3 n3 c3 (ai_ (pmul x1 y1))→Rw w' a4 n4 c4 g2→Calls Tryz.prog 75 #[.slice a3 n3 c3,.slice a4 n4 c4] w' (ds_ (ai_ (pmul (ai_ (pmul x1 y1)) g2)) w'):=fun x1 y1 up g up2 g2 q K2 f1 f2 mg p2 w' a3 n3 c3 a4 n4 c4 g3 g4=>by
  have f5:=f2.right (p2.isF mg) (by omega) (by have:=hk2.1;omega)
  rw[←hS2] at f5
  have hl:=j1_ f1.fst f1.snd
  have hl2:=f5.lv
  have hk9:=hk2.1
  refine k3_ S (Pv.right g3 (ki_ f1.fst f1.snd (Nat.le_trans (by rw[←hRR];exact hroom) (Nat.le_of_eq (show _=(2 * ((s+t+1) * (2 * H+1))+3+1) * (2 * (2 * H)) by rw[show 2 * (2 * H)=4 * H by omega]))))) (Pv.small g4 f5.snd) (by rw[←g3.len];omega) (by rw[←g4.len];omega) (oj_ hk2 (by rw[←g3.len];exact hl) (by omega) (Nat.le_refl _))
 have HEN:Hid (∀x1 y1 g up2 g2 q K2,PartP v y H KK x1 y1 g→PartP (ai_ (padd (ai_ (pmul u y1)) (ai_ (pmul x x1)))) g (2 * H) K2 up2 g2 q→isF (padd (pmul u y) (pmul x v)) (pmul v y) up2 (ai_ (pmul (ai_ (pmul x1 y1)) g2))):=hd_ (fun x1 y1 g up2 g2 q K2 p p2=>isF_add hu hx p ((au_ _).trans (c1_ (au_ _) (au_ _))) p2 ((au_ _).trans (ax_ (au_ _) (peq.refl _))) (a9_ _))
 have HB:=hd_ (ab_ (ab_ (aa_ w (.cells #[.slice a n c,.slice b m d] 35)) (aa_ _ (.cells #[.slice a' n' c',.slice b' m' d'] 35))) (aa_ _ (.cells #[.slice none 0 0,.slice none 0 0] 35)))
 have X0:Hid ((((w.alloc (.cells #[.slice a n c,.slice b m d] 35)).alloc (.cells #[.slice a' n' c',.slice b' m' d'] 35)).alloc (.cells #[.slice none 0 0,.slice none 0 0] 35)).heap[w.heap.size]? = some (.cells #[.slice a n c,.slice b m d] 35 (0,0))):=hd_ (ae_ (ae_ (aj_ w _ _) (aa_ _ (.cells #[.slice a' n' c',.slice b' m' d'] 35))) (aa_ _ (.cells #[.slice none 0 0,.slice none 0 0] 35)))
 have X1:Hid ((((w.alloc (.cells #[.slice a n c,.slice b m d] 35)).alloc (.cells #[.slice a' n' c',.slice b' m' d'] 35)).alloc (.cells #[.slice none 0 0,.slice none 0 0] 35)).heap[w.heap.size+1]? = some (.cells #[.slice a' n' c',.slice b' m' d'] 35 (0,0))):=hd_ (ae_ (by have h9:=aj_ (w.alloc (.cells #[.slice a n c,.slice b m d] 35)) #[.slice a' n' c',.slice b' m' d'] 35;rwa [aq_] at h9) (aa_ _ (.cells #[.slice none 0 0,.slice none 0 0] 35)))
 have R0:Hid ((((w.alloc (.cells #[.slice a n c,.slice b m d] 35)).alloc (.cells #[.slice a' n' c',.slice b' m' d'] 35)).alloc (.cells #[.slice none 0 0,.slice none 0 0] 35)).heap[w.heap.size+1+1]? = some (.cells #[.slice none 0 0,.slice none 0 0] 35 (0,0))):=hd_ (by have h9:=aj_ ((w.alloc (.cells #[.slice a n c,.slice b m d] 35)).alloc (.cells #[.slice a' n' c',.slice b' m' d'] 35)) #[.slice none 0 0,.slice none 0 0] 35;rwa [aq_,aq_] at h9)
 have FA:=hd_ (hA.later HB.out)
 have FB:=hd_ (hB.later HB.out)
 clear hA hB hk hk2 hk0 hH hH1 hS9 hu fu h1 hx fx k1 hfew hKs hst fvy hKK HPN hRR hsR hS2 hfar hroom
 go_enter Tryz.func35,Tryz.ntmps35
 go_upto_region 1 with fail
 go_cut [13] from 9 to 12 (fun _ wx=>∃(a1:OA_) (n1 c1:Nat) (b1:OA_) (m1 d1:Nat) (a2:OA_) (n2 c2:Nat) (b2:OA_) (m2 d2:Nat),Hid (wx.heap[w.heap.size]? = some (.cells #[.slice a1 n1 c1,.slice b1 m1 d1] 35 (0,0)))∧Hid (wx.heap[w.heap.size+1]? = some (.cells #[.slice a2 n2 c2,.slice b2 m2 d2] 35 (0,0)))∧Hid (wx.heap[w.heap.size+1+1]? = some (.cells #[.slice none 0 0,.slice none 0 0] 35 (0,0)))∧Hid (Rw wx a1 n1 c1 u)∧Hid (Rw wx b1 m1 d1 v)∧Hid (Rw wx a2 n2 c2 x)∧Hid (Rw wx b2 m2 d2 y)∧Hid (Below w.heap.size w wx))
 case first=>
  obtain⟨x0,x1,x2,x3⟩:=ay_ X0.out X1.out
  go_wp2
  clear x0 x1 x2 x3
  generalize (((w.alloc (.cells #[.slice a n c,.slice b m d] 35)).alloc (.cells #[.slice a' n' c',.slice b' m' d'] 35)).alloc (.cells #[.slice none 0 0,.slice none 0 0] 35))=W at *
  replace HB:=bt_ HB (dw_ W)
  replace X0:Hid (W.drew.heap[w.heap.size]? = _):=hd_ X0.out
  replace X1:Hid (W.drew.heap[w.heap.size+1]? = _):=hd_ X1.out
  replace R0:Hid (W.drew.heap[w.heap.size+1+1]? = some (.cells #[.slice none 0 0,.slice none 0 0] 35 (0,0))):=hd_ R0.out
  replace FA:=FA.l_ (dw_ W)
  replace FB:=FB.l_ (dw_ W)
  obtain⟨pk0,pk1,pk2,pk3⟩:=ay_ X0.out X1.out
  first | go_region_with (first
   | (go_at_call 20;(first
     | (have pm1:=pM1;refine (HNB _ FB.out).mono ?_;rintro e wp2 ⟨a2,n2,c2,b2,m2,d2,rfl,h2,g2,b⟩;replace HB:=bt_ HB b;replace X0:=bl_ X0 b;replace X1:=bl_ X1 b;replace R0:=bl_ R0 b;replace FA:=FA.l_ b;replace FB:=FB.l_ b;replace P1:=P1.l_ b;replace Q1:=Q1.l_ b;have P2:=hd_ h2;have Q2:=hd_ g2;clear h2 g2;have e0:=af_ X0.out 0;have e1:=af_ X0.out 1;have e2:=af_ X1.out 0;have e3:=af_ X1.out 1;clear b;obtain⟨pk0,pk1,pk2,pk3⟩:=ay_ X0.out X1.out;clear pM1 pm1;have pM2:=True.intro)
     | (refine (HNA _ FA.out).mono ?_;rintro e wp1 ⟨a1,n1,c1,b1,m1,d1,rfl,h1,g1,b⟩;replace HB:=bt_ HB b;replace X0:=bl_ X0 b;replace X1:=bl_ X1 b;replace R0:=bl_ R0 b;replace FA:=FA.l_ b;replace FB:=FB.l_ b;have P1:=hd_ h1;have Q1:=hd_ g1;clear h1 g1;clear b;obtain⟨pk0,pk1,pk2,pk3⟩:=ay_ X0.out X1.out;have pM1:=True.intro)))) | fail
  all_goals (
   have Y1:=hd_ (cv_ (g:=w.heap.size) X1.out (show w.heap.size+1≠w.heap.size by omega) (.slice a1 n1 c1) (.slice b1 m1 d1))
   have Y0:=hd_ (cv_ (g:=w.heap.size+1) (bk_ X0.out (.slice a1 n1 c1) (.slice b1 m1 d1)) (show w.heap.size≠w.heap.size+1 by omega) (.slice a2 n2 c2) (.slice b2 m2 d2))
   have YR:=hd_ (cv_ (g:=w.heap.size+1) (cv_ (g:=w.heap.size) R0.out (show w.heap.size+1+1≠w.heap.size by omega) (.slice a1 n1 c1) (.slice b1 m1 d1)) (show w.heap.size+1+1≠w.heap.size+1 by omega) (.slice a2 n2 c2) (.slice b2 m2 d2))
   have G9:=hd_ (a0_ (a0_ HB.out (show w.heap.size≤w.heap.size by omega) (.slice a1 n1 c1) (.slice b1 m1 d1)) (show w.heap.size≤w.heap.size+1 by omega) (.slice a2 n2 c2) (.slice b2 m2 d2))
   have Z1:=hd_ ((P1.out.boxed X0.out (.slice a1 n1 c1) (.slice b1 m1 d1)).boxed Y1.out (.slice a2 n2 c2) (.slice b2 m2 d2))
   have Z2:=hd_ ((Q1.out.boxed X0.out (.slice a1 n1 c1) (.slice b1 m1 d1)).boxed Y1.out (.slice a2 n2 c2) (.slice b2 m2 d2))
   have Z3:=hd_ ((P2.out.boxed X0.out (.slice a1 n1 c1) (.slice b1 m1 d1)).boxed Y1.out (.slice a2 n2 c2) (.slice b2 m2 d2))
   have Z4:=hd_ ((Q2.out.boxed X0.out (.slice a1 n1 c1) (.slice b1 m1 d1)).boxed Y1.out (.slice a2 n2 c2) (.slice b2 m2 d2))
   have Y2:=hd_ (bk_ Y1.out (.slice a2 n2 c2) (.slice b2 m2 d2))
   go_wp2
   go_meet
   exact⟨a1,n1,c1,b1,m1,d1,a2,n2,c2,b2,m2,d2,Y0,Y2,YR,Z1,Z2,Z3,Z4,G9⟩)
 case rest=>
  obtain⟨a1,n1,c1,b1,m1,d1,a2,n2,c2,b2,m2,d2,Y0,Y1,YR,U1,V1,U2,V2,HBc⟩:=hcut
  clear X0 X1 R0 FA FB HNA HNB HB
  obtain⟨x0,x1,x2,x3⟩:=ay_ Y0.out Y1.out
  go_wp2_with fail
  refine (HP1 _ _ _ _ _ _ _ V1.out V2.out).mono ?_
  rintro e w3 ⟨a3,n3,c3,x1',a4,n4,c4,y1,a5,n5,c5,g,rfl,h3,h4,h5,p1,bw⟩
  clear x0 x1 x2 x3 HP1 V1 V2
  have HB:=hd_ (ab_ HBc.out bw)
  have X0:=hd_ (ae_ Y0.out bw)
  have X1:=hd_ (ae_ Y1.out bw)
  have R0:=hd_ (ae_ YR.out bw)
  replace U1:=U1.l_ bw
  replace U2:=U2.l_ bw
  have XX:=hd_ h3
  have YY:=hd_ h4
  have GG:=hd_ h5
  have PP:=hd_ p1
  have f1:=HSX.out _ _ _ p1
  have F1:=hd_ f1
  have HM3:=fun (w':World) (k1:Rw w' a1 n1 c1 u) (k2:Rw w' a4 n4 c4 y1)=>HMU w' a1 n1 c1 u a4 n4 c4 y1 k1 k2 HU.out.1 f1.snd
  have HM4:=fun (w':World) (k1:Rw w' a2 n2 c2 x) (k2:Rw w' a3 n3 c3 x1')=>HMU w' a2 n2 c2 x a3 n3 c3 x1' k1 k2 HU.out.2 f1.fst
  have HM6:=fun (w':World) (k1:Rw w' a3 n3 c3 x1') (k2:Rw w' a4 n4 c4 y1)=>HMU w' a3 n3 c3 x1' a4 n4 c4 y1 k1 k2 f1.fst f1.snd
  have HA3:=HAD u y1 x x1' HU.out.1 f1.snd HU.out.2 f1.fst
  obtain⟨up,hup⟩:∃l,ai_ (padd (ai_ (pmul u y1)) (ai_ (pmul x x1')))=l:=⟨_,rfl⟩
  have fup:=HSZ.out _ _ _ up p1 hup.symm
  have HQ2:=HP2 up g fup.1 fup.2
  have HM7:=fun (up2 g2 q:LR_) (K2:Nat) (p2:PartP up g (2 * H) K2 up2 g2 q)=>HM5 x1' y1 up g up2 g2 q K2 f1 fup.1 fup.2 p2
  have HE2:Hid (∀up2 g2 q K2,PartP up g (2 * H) K2 up2 g2 q→isF (padd (pmul u y) (pmul x v)) (pmul v y) up2 (ai_ (pmul (ai_ (pmul x1' y1)) g2))):=hd_ (fun up2 g2 q K2 p2=>HEN.out _ _ _ _ _ _ _ p1 (by rw[hup];exact p2))
  rw[hup] at HA3
  generalize ai_ (pmul u y1)=pa at *
  generalize ai_ (pmul x x1')=pb at *
  generalize ai_ (pmul x1' y1)=pc at *
  generalize (S2+1) * (2 * (2 * H)+1)+2=K2 at HQ2
  clear Y0 Y1 YR HBc h3 h4 h5 p1 bw f1 F1 hup fup HSX HU HMU HAD HSZ HP2 HM5 HEN PP
  go_wp2
  replace HB:=bt_ HB (dw_ w3)
  replace X0:Hid (w3.drew.heap[w.heap.size]? = _):=hd_ X0.out
  replace X1:Hid (w3.drew.heap[w.heap.size+1]? = _):=hd_ X1.out
  replace R0:Hid (w3.drew.heap[w.heap.size+1+1]? = some (.cells #[.slice none 0 0,.slice none 0 0] 35 (0,0))):=hd_ R0.out
  replace U1:=U1.l_ (dw_ w3)
  replace U2:=U2.l_ (dw_ w3)
  replace XX:=XX.l_ (dw_ w3)
  replace YY:=YY.l_ (dw_ w3)
  replace GG:=GG.l_ (dw_ w3)
  have pSn:=ay_ X0.out X1.out
  go_region_held3 (fun w'=>w'.cell? ⟨w.heap.size,0,none⟩=some (.slice a1 n1 c1)∧w'.cell? ⟨w.heap.size,1,none⟩=some (.slice b1 m1 d1)∧w'.cell? ⟨w.heap.size+1,0,none⟩=some (.slice a2 n2 c2)∧w'.cell? ⟨w.heap.size+1,1,none⟩=some (.slice b2 m2 d2)) (exact pSn)
   (first
   | (go_at_call 75;(first
     | (have pm1:=pM1;refine (HM4 _ U2.out XX.out).mono ?_;rintro e wp2 ⟨a22,n22,c22,rfl,h22,b⟩;replace HB:=bt_ HB b;replace X0:=bl_ X0 b;replace X1:=bl_ X1 b;replace R0:=bl_ R0 b;replace U1:=U1.l_ b;replace U2:=U2.l_ b;replace XX:=XX.l_ b;replace YY:=YY.l_ b;replace GG:=GG.l_ b;replace P3:=P3.l_ b;have P4:=hd_ h22;clear h22;clear b;clear pSn;have pSn:=ay_ X0.out X1.out;clear pM1 pm1;have pM2:=True.intro)
     | (refine (HM3 _ U1.out YY.out).mono ?_;rintro e wp1 ⟨a21,n21,c21,rfl,h21,b⟩;replace HB:=bt_ HB b;replace X0:=bl_ X0 b;replace X1:=bl_ X1 b;replace R0:=bl_ R0 b;replace U1:=U1.l_ b;replace U2:=U2.l_ b;replace XX:=XX.l_ b;replace YY:=YY.l_ b;replace GG:=GG.l_ b;have P3:=hd_ h21;clear h21;clear b;clear pSn;have pSn:=ay_ X0.out X1.out;have pM1:=True.intro)))
   | (go_at_call 83;(first
     | (have pm2:=pM2;refine (HA3 _ _ _ _ _ _ _ P3.out P4.out).mono ?_;rintro e wp3 ⟨a23,n23,c23,rfl,h23,b⟩;replace HB:=bt_ HB b;replace X0:=bl_ X0 b;replace X1:=bl_ X1 b;replace R0:=bl_ R0 b;replace U1:=U1.l_ b;replace U2:=U2.l_ b;replace XX:=XX.l_ b;replace YY:=YY.l_ b;replace GG:=GG.l_ b;replace P3:=P3.l_ b;clear P4;have UP:=hd_ h23;clear h23;clear b;clear pSn;have pSn:=ay_ X0.out X1.out;clear pM2 pm2;have pM3:=True.intro))))
  clear HM3 HM4 HA3 U1 U2
  go_wp2_with fail
  refine (HQ2 _ _ _ _ _ _ _ UP.out GG.out).mono ?_
  rintro e w6 ⟨a6,n6,c6,up2,a7,n7,c7,g2,a8,n8,c8,q,rfl,h6,h7,h8,p2,bw⟩
  replace HB:=bt_ HB bw
  replace R0:=bl_ R0 bw
  replace XX:=XX.l_ bw
  replace YY:=YY.l_ bw
  have P9:=hd_ h6
  have G2:=hd_ h7
  have HM8:=HM7 up2 g2 q K2 p2
  have KF:=hd_ (HE2.out up2 g2 q K2 p2)
  clear bw h6 h7 h8 p2 HQ2 UP GG HM7 HE2
  go_wp2_with fail
  refine (HM6 _ XX.out YY.out).mono ?_
  rintro e w7 ⟨a9,n9,c9,rfl,h9,bw⟩
  replace HB:=bt_ HB bw
  replace R0:=bl_ R0 bw
  replace P9:=P9.l_ bw
  replace G2:=G2.l_ bw
  have PC:=hd_ h9
  clear bw h9 HM6 XX YY X0 X1
  go_wp2_with fail
  refine (HM8 _ _ _ _ _ _ _ PC.out G2.out).mono ?_
  rintro e w8 ⟨a10,n10,c10,rfl,h10,bw⟩
  replace HB:=bt_ HB bw
  replace R0:=bl_ R0 bw
  replace P9:=P9.l_ bw
  have Q9:=hd_ h10
  clear bw h10 HM8 PC G2
  generalize ai_ (pmul pc g2)=pd at *
  obtain⟨r0,r1⟩:=bu_ R0.out
  have e0:=af_ R0.out 0
  have e1:=af_ R0.out 1
  have R9:=hd_ (bk_ R0.out (.slice a6 n6 c6) (.slice a10 n10 c10))
  replace P9:=hd_ (P9.out.boxed R0.out (.slice a6 n6 c6) (.slice a10 n10 c10))
  replace Q9:=hd_ (Q9.out.boxed R0.out (.slice a6 n6 c6) (.slice a10 n10 c10))
  have G9:=hd_ (a0_ HB.out (show w.heap.size≤w.heap.size+1+1 by omega) (.slice a6 n6 c6) (.slice a10 n10 c10))
  go_wp2
  refine bodyPost_ret (results_cell_row Tryz.results35 _ _ (w.heap.size+1+1) 35 #[.slice a6 n6 c6,.slice a10 n10 c10] (0,0) _ rfl R9.out Tryz.underlying35 rfl (by kernel_rfl)) rfl ?_
  exact⟨a6,n6,c6,up2,a10,n10,c10,pd,rfl,P9.out,Q9.out,KF.out,G9.out⟩
theorem PartP.of{U U' V x y g:List Rat}{h K:Nat}(p:PartP U V h K x y g)(e:peq U U'):PartP U' V h K x y g:=⟨p.nx,p.ny,p.ng,e.symm.trans p.dx,p.dy,⟨p.gcd.1.of e (peq.refl _) (peq.refl _),p.gcd.2⟩,p.sz⟩
end Go.Proofs.YtocebjbjnfammaaGreat
