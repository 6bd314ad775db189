import Derived.Test.YtocebjbjnfammaaGreatSG6
import Derived.Test.YtocebjbjnfammaaGreatSG2
import Derived.Test.YtocebjbjnfammaaGreatSG8
import Derived.Test.YtocebjbjnfammaaGreatSG11
import Derived.Deep.RegionLaw
import Derived.Deep.RegionHeld3
import Derived.Deep.CutRange
import Derived.Test.YtocebjbjnfammaaGreatSG9
import Derived.StillTailTactics
import Derived.Test.YtocebjbjnfammaaGreatSG1
set_option maxRecDepth 4096
set_option maxHeartbeats 16000000
namespace Go.Proofs.YtocebjbjnfammaaGreat
open Go.RowKit
theorem Rw.lit2(w:World)(e:TypeId){q p:Rat}{a b a' b':Option Addr}{n c m d n' c' m' d':Nat}(h1:Wd w a n c (dg q.num.natAbs))(h2:Wd w b m d (dg q.den))(h3:Wd w a' n' c' (dg p.num.natAbs))(h4:Wd w b' m' d' (dg p.den)) :
 Rw (w.alloc (.cells #[.bool (zneg q.num),.slice a n c,.slice b m d,.bool (zneg p.num),.slice a' n' c',.slice b' m' d'] e)) (some ⟨w.heap.size,0,none⟩) 2 2 [q,p]:=by
 have hb:Below w.heap.size w (w.alloc (.cells #[.bool (zneg q.num),.slice a n c,.slice b m d,.bool (zneg p.num),.slice a' n' c',.slice b' m' d'] e)):=aa_ _ _
 have hx:=ai_ w #[.bool (zneg q.num),.slice a n c,.slice b m d,.bool (zneg p.num),.slice a' n' c',.slice b' m' d'] e
 refine ⟨[rx q a n c b m d,rx p a' n' c' b' m' d'],⟨rfl,Nat.le_refl _,by omega,fun h=>(by cases h),fun x hx=>?_,.inr ⟨w.heap.size,0,rfl,fun j hj=>?_⟩⟩,by simp[rx_q],fun x hx=>?_⟩
 ·simp only[List.mem_cons,List.not_mem_nil,or_false] at hx
  rcases hx with rfl | rfl
  ·exact⟨h1.later hb,h2.later hb⟩
  ·exact⟨h3.later hb,h4.later hb⟩
 ·match j,hj with
  | 0,_=>exact⟨af_ hx 0,af_ hx 1,af_ hx 2⟩
  | 1,_=>exact⟨af_ hx 3,af_ hx 4,af_ hx 5⟩
 ·simp only[List.mem_cons,List.not_mem_nil,or_false] at hx
  rcases hx with rfl | rfl
  ·exact dl_ ..
  ·exact dl_ ..
theorem Rw.lit3(w:World)(e:TypeId){q p r:Rat}{a b a' b' a2 b2:Option Addr}{n c m d n' c' m' d' n2 c2 m2 d2:Nat}(h1:Wd w a n c (dg q.num.natAbs))(h2:Wd w b m d (dg q.den))(h3:Wd w a' n' c' (dg p.num.natAbs))(h4:Wd w b' m' d' (dg p.den))(h5:Wd w a2 n2 c2 (dg r.num.natAbs))(h6:Wd w b2 m2 d2 (dg r.den)) :
 Rw (w.alloc (.cells #[.bool (zneg q.num),.slice a n c,.slice b m d,.bool (zneg p.num),.slice a' n' c',.slice b' m' d',.bool (zneg r.num),.slice a2 n2 c2,.slice b2 m2 d2] e)) (some ⟨w.heap.size,0,none⟩) 3 3 [q,p,r]:=by
 have hb:Below w.heap.size w (w.alloc (.cells #[.bool (zneg q.num),.slice a n c,.slice b m d,.bool (zneg p.num),.slice a' n' c',.slice b' m' d',.bool (zneg r.num),.slice a2 n2 c2,.slice b2 m2 d2] e)):=aa_ _ _
 have hx:=ai_ w #[.bool (zneg q.num),.slice a n c,.slice b m d,.bool (zneg p.num),.slice a' n' c',.slice b' m' d',.bool (zneg r.num),.slice a2 n2 c2,.slice b2 m2 d2] e
 refine ⟨[rx q a n c b m d,rx p a' n' c' b' m' d',rx r a2 n2 c2 b2 m2 d2],⟨rfl,Nat.le_refl _,by omega,fun h=>(by cases h),fun x hx=>?_,.inr ⟨w.heap.size,0,rfl,fun j hj=>?_⟩⟩,by simp[rx_q],fun x hx=>?_⟩
 ·simp only[List.mem_cons,List.not_mem_nil,or_false] at hx
  rcases hx with rfl | rfl | rfl
  ·exact⟨h1.later hb,h2.later hb⟩
  ·exact⟨h3.later hb,h4.later hb⟩
  ·exact⟨h5.later hb,h6.later hb⟩
 ·match j,hj with
  | 0,_=>exact⟨af_ hx 0,af_ hx 1,af_ hx 2⟩
  | 1,_=>exact⟨af_ hx 3,af_ hx 4,af_ hx 5⟩
  | 2,_=>exact⟨af_ hx 6,af_ hx 7,af_ hx 8⟩
 ·simp only[List.mem_cons,List.not_mem_nil,or_false] at hx
  rcases hx with rfl | rfl | rfl
  ·exact dl_ ..
  ·exact dl_ ..
  ·exact dl_ ..
theorem qg_(w:World):Calls Tryz.prog 51 #[] w (b8_ [1] w):=by
 obtain⟨q,hq⟩:∃q:Rat,((1:Int):Rat)=q:=⟨_,rfl⟩
 have hq1:q=1:=by rw[←hq];rfl
 have HI:∀w':World,Calls Tryz.prog 15 #[.int .i64 1] w' (LstQ q w'):=fun w'=>hq▸cz_ 1 w' lk_
 rw[←hq1]
 clear hq hq1
 go_enter Tryz.func51,Tryz.ntmps51
 go_wp2_with fail
 refine (HI _).mono ?_
 rintro e w1 ⟨a1,n1,c1,b1,m1,d1,rfl,h1,g1,b⟩
 unfold frV
 have ba:=aa_ w1 (.cells #[.bool (zneg q.num),.slice a1 n1 c1,.slice b1 m1 d1] 27)
 have HF:=hd_ (Rw.lit1 w1 27 h1 g1)
 have HB:=hd_ (ab_ b ba)
 clear b ba h1 g1 HI
 go_wp2
 go_ret
 exact⟨_,_,_,rfl,HF.out,HB.out⟩
theorem fok_room{h s S x y e:Nat}(hk:Fok h s)(hS:S≤(s+1) * (2 * h+1))(hx:x≤s+2)(hy:y≤S+4)(he:e≤h+1):x+y+(S+2+e * (S+2+1))+4+(S+2)+5≤2000000000:=by
 obtain⟨h1,h2,h3⟩:=hk
 have g1:2 * h * (S+3)≤2 * h * ((s+1) * (2 * h+1)+3):=Nat.mul_le_mul_left _ (by omega)
 have g2:e * (S+2+1)≤(h+1) * (S+3):=Nat.mul_le_mul he (Nat.le_refl _)
 have g3:(h+1) * (S+3)=h * (S+3)+(S+3):=by rw[Nat.add_mul,Nat.one_mul]
 have g4:2 * h * (S+3)=h * (S+3)+h * (S+3):=by rw[Nat.mul_assoc];omega
 have g5:2 * (S+3)≤h * (S+3):=Nat.mul_le_mul_right _ h1
 omega
theorem fok_gcd{h s S:Nat}(hk:Fok h s)(hS:S≤(s+1) * (2 * h+1)):3 * (s+2+2 * h * (S+3))≤1900000000:=by
 obtain⟨h1,h2,h3⟩:=hk
 have g1:2 * h * (S+3)≤2 * h * ((s+1) * (2 * h+1)+3):=Nat.mul_le_mul_left _ (by omega)
 omega
theorem inv_len{z:Int}{S:Nat}(h:z.natAbs≤pw S):qlen (1 / (z:Rat))≤S+2:=by
 have h1:((1:Int):Rat)=1:=rfl
 rw[←h1]
 exact db_ (by have:=fh_ S;omega) h
theorem q3_{g A:List Rat}{h s S:Nat}{z:Int}{c:Nat}(hk:Fok h s)(hS:S≤(s+1) * (2 * h+1))(hsS:s≤S)(hc:0 < c)(hcs:c≤pw s)(hA:Ints (ag_ ((c:Nat):Rat) A) (pw s))(hAn:ah_ A=A)(hAl:A.length≤h)
 (hg:ah_ g=g) (hg0:0 < g.length) (hz0:z≠0) (hz:z.natAbs≤pw (S+2)) (hgI:Ints (ag_ (z:Rat) g) (pw (S+2))):∃I,DivWay A g (S+2) 2000000000 I:=by
 have hc0:((c:Nat):Rat)≠0:=fun e=>by have h9:c=0:=Rat.natCast_inj.1 (e.trans rfl);omega
 have hzr:=eq_ hz0
 obtain⟨w,hl⟩:=DivL.of hg hg0 hgI (du_ hzr g)
 exact⟨_,DivWay.new (n:=h) (s:=S+2) hl (by rw[hAn];exact hAl) (hA.mono (cn_ (by omega))) (du_ hc0 A) (Nat.le_refl _) (fok_room hk hS (dj_ (z:=1) (t:=s) (by have:=fh_ s;omega) hcs) (inv_len hz) (by omega))⟩
theorem m9_(a:OA_)(n c:Nat)(L:List Fx)(b:OA_)(m d:Nat)(M:List Fx)(h s:Nat)(w:World)(hU:Fxs w a n c L)(hV:Fxs w b m d M)(htU:thin 2000000000 L)(htV:thin 2000000000 M)(hz:Fz (fqs L) (fqs M) h s)(hk:Fok h s) :
 Calls Tryz.prog 10 #[.agg #[.slice a n c,.slice b m d]] w (LstF (fqs L) (fqs M) w):=by
 have hnU:n≤h:=by rw[←hU.len,←av_];exact hz.lu
 have hnV:m≤h:=by rw[←hV.len,←av_];exact hz.lv
 have hh50:h≤50:=hk.2.1
 have hs6:s+2≤700000000:=by have:=hk.2.2;omega
 obtain⟨U,hUe⟩:∃U,fqs L=U:=⟨_,rfl⟩
 obtain⟨V,hVe⟩:∃U,fqs M=U:=⟨_,rfl⟩
 have HNX:∀w':World,Fxs w' a n c L→Calls Tryz.prog 50 #[.slice a n c] w' (b8_ U w'):=fun w' h9=>hUe▸g8_ a n c L w' h9 (by omega) htU
 have HNY:∀w':World,Fxs w' b m d M→Calls Tryz.prog 50 #[.slice b m d] w' (b8_ V w'):=fun w' h9=>hVe▸g8_ b m d M w' h9 (by omega) htV
 rw[hUe,hVe] at hz ⊢
 obtain⟨u0,hu0⟩:∃l,ah_ U=l:=⟨_,rfl⟩
 obtain⟨v0,hv0⟩:∃l,ah_ V=l:=⟨_,rfl⟩
 have HRX:∀(w':World) (a3:OA_) (n3 c3:Nat),Rw w' a3 n3 c3 U→Calls Tryz.prog 49 #[.slice a3 n3 c3] w' (b8_ u0 w'):=fun w' a3 n3 c3 h9=>hu0▸ea_ a3 n3 c3 U w' h9 (by have:=h9.len;have:=hz.lu;omega) (fun q h8=>Nat.le_trans (hz.qlen q h8) (by omega))
 have HRY:∀(w':World) (a3:OA_) (n3 c3:Nat),Rw w' a3 n3 c3 V→Calls Tryz.prog 49 #[.slice a3 n3 c3] w' (b8_ v0 w'):=fun w' a3 n3 c3 h9=>hv0▸ea_ a3 n3 c3 V w' h9 (by have:=h9.len;have:=hz.lv;omega) (fun q h8=>Nat.le_trans (hz.swap.qlen q h8) (by omega))
 have HUV:Hid (peq u0 U∧peq v0 V∧ah_ u0=u0∧ah_ v0=v0∧u0.length≤h∧v0.length≤h):=hd_ ⟨hu0▸ar_ U,hv0▸ar_ V,by rw[←hu0];exact a9_ _,by rw[←hv0];exact a9_ _,by rw[←hu0];exact Nat.le_trans (ax_ _) hz.lu,by rw[←hv0];exact Nat.le_trans (ax_ _) hz.lv⟩
 have HZ:=hd_ hz
 have HK:=hd_ hk
 have HONE:∀w':World,Calls Tryz.prog 51 #[] w' (b8_ [1] w'):=fun w'=>qg_ w'
 have HB:=hd_ (ab_ (aa_ w (.cells #[.slice a n c,.slice b m d] 24)) (aa_ _ (.cells #[.slice none 0 0,.slice none 0 0] 24)))
 have X0:Hid (((w.alloc (.cells #[.slice a n c,.slice b m d] 24)).alloc (.cells #[.slice none 0 0,.slice none 0 0] 24)).heap[w.heap.size]? = some (.cells #[.slice a n c,.slice b m d] 24 (0,0))):=hd_ (ac_ (ai_ w _ _) (aa_ _ (.cells #[.slice none 0 0,.slice none 0 0] 24)))
 have R0:Hid (((w.alloc (.cells #[.slice a n c,.slice b m d] 24)).alloc (.cells #[.slice none 0 0,.slice none 0 0] 24)).heap[w.heap.size+1]? = some (.cells #[.slice none 0 0,.slice none 0 0] 24 (0,0))):=hd_ (by have h9:=ai_ (w.alloc (.cells #[.slice a n c,.slice b m d] 24)) #[.slice none 0 0,.slice none 0 0] 24;rwa [al_] at h9)
 have HF:=hd_ (hU.later HB.out)
 have HFz:=hd_ (hV.later HB.out)
 clear hU hV htU htV hUe hVe hu0 hv0 hz hk
 go_enter Tryz.func10,Tryz.ntmps10
 obtain⟨x0,x1⟩:=a0_ X0.out
 go_wp2_with fail
 refine (HNX _ HF.out).mono ?_
 rintro e w1 ⟨a3,n3,c3,rfl,h3,bw⟩
 clear x0 x1
 replace HB:=bt_ HB bw
 replace X0:=bl_ X0 bw
 replace R0:=bl_ R0 bw
 replace HFz:=HFz.l_ bw
 have XX:=hd_ h3
 clear bw h3 HF HNX
 go_wp2_with fail
 refine (HRX _ _ _ _ XX.out).mono ?_
 rintro e w2 ⟨a4,n4,c4,rfl,h4,bw⟩
 replace HB:=bt_ HB bw
 replace X0:=bl_ X0 bw
 replace R0:=bl_ R0 bw
 replace HFz:=HFz.l_ bw
 have hn4:n4≤h:=by rw[←h4.len];exact HUV.out.2.2.2.2.1
 have UU:=hd_ h4
 clear bw h4 XX HRX
 obtain⟨x0,x1⟩:=a0_ X0.out
 go_wp2_with fail
 refine (HNY _ HFz.out).mono ?_
 rintro e w3 ⟨a5,n5,c5,rfl,h5,bw⟩
 clear x0 x1
 replace HB:=bt_ HB bw
 replace X0:=bl_ X0 bw
 replace R0:=bl_ R0 bw
 replace UU:=UU.l_ bw
 have YY:=hd_ h5
 clear bw h5 HFz HNY
 go_wp2_with fail
 refine (HRY _ _ _ _ YY.out).mono ?_
 rintro e w4 ⟨a6,n6,c6,rfl,h6,bw⟩
 replace HB:=bt_ HB bw
 replace X0:=bl_ X0 bw
 replace R0:=bl_ R0 bw
 replace UU:=UU.l_ bw
 have hn6:n6≤h:=by rw[←h6.len];exact HUV.out.2.2.2.2.2
 have VV:=hd_ h6
 clear bw h6 YY HRY X0
 by_cases hv1:n6=0
 ·have hve:((n6:Int) == 0)=true:=by simp[hv1]
  have hF:isF U V [] [1]:=gn_ (.inr (by rw[←ao_ HUV.out.2.1];have h9:=bc_ v0;rw[VV.out.len] at h9;omega))
  have HFN:=hd_ hF
  clear hF
  clear UU VV HUV HZ HK
  have ba:=aa_ w4 (.cells #[] 27)
  replace HB:=bt_ HB ba
  replace R0:=bl_ R0 ba
  clear ba
  go_wp2_with fail
  refine (HONE _).mono ?_
  rintro e w5 ⟨a7,n7,c7,rfl,h7,bw⟩
  replace HB:=bt_ HB bw
  replace R0:=bl_ R0 bw
  obtain⟨y0,y1⟩:=a0_ R0.out
  have f0:=ad_ R0.out 0
  have f1:=ad_ R0.out 1
  have R9:=hd_ (a4_ R0.out (.slice (some ⟨w4.heap.size,0,none⟩) 0 0) (.slice a7 n7 c7))
  have A9:=hd_ ((Rw.lit0 w5 ⟨w4.heap.size,0,none⟩).boxed R0.out (.slice (some ⟨w4.heap.size,0,none⟩) 0 0) (.slice a7 n7 c7))
  have B9:=hd_ (h7.boxed R0.out (.slice (some ⟨w4.heap.size,0,none⟩) 0 0) (.slice a7 n7 c7))
  have G9:=hd_ (an_ HB.out (show w.heap.size≤w.heap.size+1 by omega) (.slice (some ⟨w4.heap.size,0,none⟩) 0 0) (.slice a7 n7 c7))
  clear h7 bw R0 HB HONE
  go_wp2
  refine bodyPost_ret (results_cell_row Tryz.results10 _ _ (w.heap.size+1) 24 #[.slice (some ⟨w4.heap.size,0,none⟩) 0 0,.slice a7 n7 c7] (0,0) _ rfl R9.out Tryz.underlying24 rfl (by kernel_rfl)) rfl ?_
  exact⟨_,0,0,[],a7,n7,c7,[1],rfl,A9.out,B9.out,HFN.out,G9.out⟩
 ·have hve:((n6:Int) == 0)=false:=by simp[hv1]
  by_cases hu1:n4=0
  ·have hue:((n4:Int) == 0)=true:=by simp[hu1]
   have hF:isF U V [] [1]:=gn_ (.inl (by rw[←ao_ HUV.out.1];have h9:=bc_ u0;rw[UU.out.len] at h9;omega))
   have HFN:=hd_ hF
   clear hF
   clear UU VV HUV HZ HK
   have ba:=aa_ w4 (.cells #[] 27)
   replace HB:=bt_ HB ba
   replace R0:=bl_ R0 ba
   clear ba
   go_wp2_with fail
   refine (HONE _).mono ?_
   rintro e w5 ⟨a7,n7,c7,rfl,h7,bw⟩
   replace HB:=bt_ HB bw
   replace R0:=bl_ R0 bw
   obtain⟨y0,y1⟩:=a0_ R0.out
   have f0:=ad_ R0.out 0
   have f1:=ad_ R0.out 1
   have R9:=hd_ (a4_ R0.out (.slice (some ⟨w4.heap.size,0,none⟩) 0 0) (.slice a7 n7 c7))
   have A9:=hd_ ((Rw.lit0 w5 ⟨w4.heap.size,0,none⟩).boxed R0.out (.slice (some ⟨w4.heap.size,0,none⟩) 0 0) (.slice a7 n7 c7))
   have B9:=hd_ (h7.boxed R0.out (.slice (some ⟨w4.heap.size,0,none⟩) 0 0) (.slice a7 n7 c7))
   have G9:=hd_ (an_ HB.out (show w.heap.size≤w.heap.size+1 by omega) (.slice (some ⟨w4.heap.size,0,none⟩) 0 0) (.slice a7 n7 c7))
   clear h7 bw R0 HB HONE
   go_wp2
   refine bodyPost_ret (results_cell_row Tryz.results10 _ _ (w.heap.size+1) 24 #[.slice (some ⟨w4.heap.size,0,none⟩) 0 0,.slice a7 n7 c7] (0,0) _ rfl R9.out Tryz.underlying24 rfl (by kernel_rfl)) rfl ?_
   exact⟨_,0,0,[],a7,n7,c7,[1],rfl,A9.out,B9.out,HFN.out,G9.out⟩
  ·have hue:((n4:Int) == 0)=false:=by simp[hu1]
   have hv00:plen v0≠0:=by rw[ay_ HUV.out.2.2.2.1,VV.out.len];exact hv1
   have hu00:plen u0≠0:=by rw[ay_ HUV.out.2.2.1,UU.out.len];exact hu1
   have hlu:=HUV.out.2.2.2.2.1
   have hlv:=HUV.out.2.2.2.2.2
   have hpu:=bc_ u0
   have hpv:=bc_ v0
   obtain⟨S,hS⟩:∃S,(s+1) * (plen u0+plen v0+1)=S:=⟨_,rfl⟩
   have hSm:S≤(s+1) * (2 * h+1):=by rw[←hS];exact Nat.mul_le_mul_left _ (by omega)
   have hsS:s≤S:=by rw[←hS,Nat.mul_add];omega
   obtain⟨cc,cc0,ccs,ccU,ccV⟩:=HZ.out.form
   have ccu:=ccU.congr (b0_ _ HUV.out.1.symm)
   have ccv:=ccV.congr (b0_ _ HUV.out.2.1.symm)
   have hz0:Fz u0 v0 h s:=⟨hlu,hlv,cc,cc0,ccs,ccu,ccv⟩
   have hqu:∀q∈u0,qlen q≤15728640000:=fun q hq=>Nat.le_trans (hz0.qlen q hq) (by omega)
   have hqv:∀q∈v0,qlen q≤15728640000:=fun q hq=>Nat.le_trans (hz0.swap.qlen q hq) (by omega)
   have hE:=fok_gcd HK.out hSm
   have HGC:=fun (w':World) (h8:Rw w' a4 n4 c4 u0) (h9:Rw w' a6 n6 c6 v0)=>pu_ a4 n4 c4 u0 a6 n6 c6 v0 (3 * (s+2+2 * h * (S+3))) (S+2) _ w' h8 h9 (by omega) (by omega) hqu hqv (GcdWay.new cc0 ccs ccu ccv (by omega) hS (n:=h) (by omega) (by omega) (Nat.le_refl _)) (by omega)
   clear hE
   go_wp2_with fail
   refine (HGC _ UU.out VV.out).mono ?_
   rintro e w5 ⟨a7,n7,c7,g,rfl,h7,hg1,hg2,hg3,⟨z,hz0,hz1,hz2⟩,bw⟩
   clear HGC
   replace HB:=bt_ HB bw
   replace R0:=bl_ R0 bw
   replace UU:=UU.l_ bw
   replace VV:=VV.l_ bw
   have GG:=hd_ h7
   have hgl:=hg1.1.2.1.len hv00
   rw[ay_ hg2,h7.len] at hgl
   have hg0:0 < g.length:=by rw[h7.len];omega
   have hn7:0 < n7:=by omega
   obtain⟨I,HWX⟩:=q3_ HK.out hSm hsS cc0 ccs ccu HUV.out.2.2.1 hlu hg2 hg0 hz0 hz1 hz2
   obtain⟨I2,HWY⟩:=q3_ HK.out hSm hsS cc0 ccs ccv HUV.out.2.2.2.1 hlv hg2 hg0 hz0 hz1 hz2
   have HDX:=fun (w':World) (h8:Rw w' a4 n4 c4 u0) (h9:Rw w' a7 n7 c7 g)=>ho_ a4 n4 c4 u0 a7 n7 c7 g (S+2) 2000000000 I w' h8 h9 (by omega) (by omega) hqu hg3 hg2 hn7 HWX (Nat.le_refl _)
   have HDY:=fun (w':World) (h8:Rw w' a6 n6 c6 v0) (h9:Rw w' a7 n7 c7 g)=>ho_ a6 n6 c6 v0 a7 n7 c7 g (S+2) 2000000000 I2 w' h8 h9 (by omega) (by omega) hqv hg3 hg2 hn7 HWY (Nat.le_refl _)
   have hGUV:isGcd U V g:=⟨hg1.1.of HUV.out.1 HUV.out.2.1 (peq.refl g),hg1.2⟩
   have hpx:=hg1.1.1
   have hpy:=hg1.1.2.1
   have HV0:Hid (plen V≠0):=hd_ (by rw[←ao_ HUV.out.2.1];exact hv00)
   have HGUV:=hd_ hGUV
   have HPX:=hd_ hpx
   have HPY:=hd_ hpy
   have HRX:=hd_ (fun (Q R:LR_) (h9:I Q R)=>(HWX.room h9).2)
   have HRY:=hd_ (fun (Q R:LR_) (h9:I2 Q R)=>(HWY.room h9).2)
   clear h7 bw hg1 hg2 hg3 hz0 hz1 hz2 hgl hg0 hqu hqv HWX HWY hGUV hpx hpy cc0 ccs ccU ccV ccu ccv hS hSm hsS hu00 hv00 hlu hlv hpu hpv HK HZ HONE
   go_wp2_with fail
   refine (HDX _ UU.out GG.out).mono ?_
   rintro e w6 ⟨a8,n8,c8,x,a9,n9,c9,r,rfl,h8,h9,d1,d2,d3,d4,⟨Q,hQ,hI⟩,d6,bw⟩
   clear HDX
   have hr0:r=[]:=List.eq_nil_of_length_eq_zero (by rw[←ay_ d3];exact HPX.out.rest d1)
   have hux:peq U (pmul x g):=HUV.out.1.symm.trans (d1.1.trans (ap_ fun y=>by rw[a2_,hr0];show _+(0:Rat)=_;grind))
   have hxq:∀q∈x,qlen q≤2000000000:=fun q hq=>HRX.out Q r hI q (gt_ (hQ▸hq))
   have HUX:=hd_ hux
   have HXQ:=hd_ hxq
   have hn8:n8≤50:=by rw[←h8.len];omega
   replace HB:=bt_ HB bw
   replace R0:=bl_ R0 bw
   replace VV:=VV.l_ bw
   replace GG:=GG.l_ bw
   have XR:=hd_ h8
   clear h8 h9 d1 d2 d3 d4 d6 bw hr0 hux hxq hQ hI UU HPX HRX
   go_wp2_with fail
   refine (HDY _ VV.out GG.out).mono ?_
   rintro e w7 ⟨a10,n10,c10,y,a11,n11,c11,r2,rfl,h10,h11,d1,d2,d3,d4,⟨Q2,hQ,hI⟩,d6,bw⟩
   clear HDY
   have hr0:r2=[]:=List.eq_nil_of_length_eq_zero (by rw[←ay_ d3];exact HPY.out.rest d1)
   have hvy:peq V (pmul y g):=HUV.out.2.1.symm.trans (d1.1.trans (ap_ fun y=>by rw[a2_,hr0];show _+(0:Rat)=_;grind))
   have hyq:∀q∈y,qlen q≤2000000000:=fun q hq=>HRY.out Q2 r2 hI q (gt_ (hQ▸hq))
   have hy0:plen y≠0:=fun e=>HV0.out (by rw[ao_ hvy,ao_ (a6_ (c2_ e) (peq.refl g))];rfl)
   rw[ay_ d2,h10.len] at hy0
   have hyp:plen y=n10:=by rw[ay_ d2,h10.len]
   have hn10:n10≤50:=by rw[←h10.len];omega
   have hbd10:=h10.bound
   obtain⟨e2,he2⟩:∃e2,n10 - 1=e2:=⟨_,rfl⟩
   obtain⟨yt,hyt⟩:∃t,y.getD e2 0=t:=⟨_,rfl⟩
   obtain⟨z1,hz1⟩:∃q:Rat,((1:Int):Rat)=q:=⟨_,rfl⟩
   have hz11:z1=1:=by rw[←hz1];rfl
   obtain⟨cq,hcq⟩:∃t,z1 / yt=t:=⟨_,rfl⟩
   have hcy:cq=1 / co y (plen y - 1):=by rw[←hcq,hz11,←hyt,hyp,he2];rfl
   have hfin:=si_ HGUV.out HV0.out HUX.out hvy hcy
   have hlt:qlen yt≤2000000000:=by rw[←hyt];exact hyq _ (f4_ (by rw[h10.len];omega))
   have hlc:qlen cq≤2000000000:=by
    rw[←hcq,hz11,Rat.div_def,Rat.one_mul]
    exact Nat.le_trans (hx_ _) hlt
   have HI1:∀w':World,Calls Tryz.prog 15 #[.int .i64 1] w' (LstQ z1 w'):=fun w'=>hz1▸cz_ 1 w' lk_
   have hlz:qlen z1≤2:=hz1▸br_ (by decide)
   obtain⟨xs,hxs⟩:∃l,ah_ (ag_ cq x)=l:=⟨_,rfl⟩
   obtain⟨ys,hys⟩:∃l,ah_ (ag_ cq y)=l:=⟨_,rfl⟩
   have HSX:∀(w':World) (v:Value),Rt w' v cq 2000000000→Rw w' a8 n8 c8 x→Calls Tryz.prog 55 #[v,.slice a8 n8 c8] w' (b8_ xs w'):=fun w' v g1 g2=>hxs▸g4_ v cq a8 n8 c8 x w' g1 g2 (by omega) HXQ.out
   have HSY:∀(w':World) (v:Value),Rt w' v cq 2000000000→Rw w' a10 n10 c10 y→Calls Tryz.prog 55 #[v,.slice a10 n10 c10] w' (b8_ ys w'):=fun w' v g1 g2=>hys▸g4_ v cq a10 n10 c10 y w' g1 g2 (by omega) hyq
   rw[hxs,hys] at hfin
   have HFN:=hd_ hfin
   have HLC:=hd_ hlc
   have HLZ:=hd_ hlz
   replace HB:=bt_ HB bw
   replace R0:=bl_ R0 bw
   replace XR:=XR.l_ bw
   have YR:=hd_ h10
   have hi2:(n10:Int) - 1=(e2:Int):=by omega
   have hw2:IntKind.i64.wrap (e2:Int)=(e2:Int):=by rw[IntKind.wrap_i64];omega
   have hl2:(e2:Int) < (n10:Int):=by omega
   obtain⟨bb,off,rfl,a3,n3,c3,b3,m3,d3',hea,hA,hDn⟩:=h10.at (j:=e2) (by omega)
   rw[hyt] at hea hA hDn
   have hn3:n3≤15728640000:=by rw[←hA.len];exact Nat.le_trans (a8_ _) (by omega)
   have hm3:m3≤15728640000:=by rw[←hDn.len];exact Nat.le_trans (a7_ _) (by omega)
   have HEA:=hd_ hea
   have QA:=hd_ hA
   have QD:=hd_ hDn
   have ECQ:=hd_ hcq
   clear h10 h11 d1 d2 d3 d4 d6 bw hr0 hvy hyq hy0 hyp he2 hyt hz1 hz11 hcq hcy hfin hlt hlc hlz hxs hys hea hA hDn hQ hI VV GG HPY HRY HGUV HV0 HUX HXQ HUV
   go_upto_region 8 with fail
   go_cut [10] from 45 to 52 (fun cv wx=>∃(g:Nat) (a5:OA_) (n5 c5:Nat) (b5:OA_) (m5 d5:Nat),cv=.pointer (some ⟨g,0,none⟩)∧Hid (wx.heap[g]? = some (.cells #[.bool (zneg cq.num),.slice a5 n5 c5,.slice b5 m5 d5] 27 (0,0)))∧Hid (Wd wx a5 n5 c5 (dg cq.num.natAbs))∧Hid (Wd wx b5 m5 d5 (dg cq.den))∧Hid (Below w7.heap.size w7 wx)∧Hid (w7.heap.size≤g))
   case first=>
    go_wp2
    have G1:Below w7.heap.size w7 w7.drew:=(Below.refl _ _).drew
    have G2:∀o,Below w7.heap.size w7 (w7.alloc o).drew:=fun o=>(aa_ w7 o).drew
    have qS:=aq_ HEA.out G1
    have qA:=fun o=>aq_ HEA.out (G2 o)
    have HQU:∀(w':World) (a4 b4:OA_) (n4 c4 m4 d4:Nat),Below w7.heap.size w7 w'→Wd w' a4 n4 c4 (dg z1.num.natAbs)→Wd w' b4 m4 d4 (dg z1.den)→n4≤2→m4≤2→Calls Tryz.prog 54 #[.agg #[.bool (zneg z1.num),.slice a4 n4 c4,.slice b4 m4 d4],.agg #[.bool (zneg yt.num),.slice a3 n3 c3,.slice b3 m3 d3']] w' (LstQ cq w'):=fun w' a4 b4 n4 c4 m4 d4 g1 g2 g3 g4 g5=>ECQ.out▸in_ _ _ z1 yt w' (Rt.of g2 g3 (by omega) (by omega)) (Rt.of (QA.out.later g1) (QD.out.later g1) hn3 hm3)
    go_region_held3 (fun w'=>w'.cell? ⟨bb,off+e2 * 3,none⟩=some (.bool (zneg yt.num))∧w'.cell? ⟨bb,off+e2 * 3+1,none⟩=some (.slice a3 n3 c3)∧w'.cell? ⟨bb,off+e2 * 3+2,none⟩=some (.slice b3 m3 d3')) (first | with_reducible exact qS | with_reducible exact qA _ | with_reducible exact qC)
     (first
     | (go_at_call 15;refine (HI1 _).mono ?_;rintro e w8 ⟨a4,n4,c4,b4,m4,d4,rfl,h4,g4,bw⟩;(first
       | (have bw1:Below w7.drew.heap.size w7.drew w8:=(by with_reducible exact bw);have BB:=hd_ (ab_ G1 bw1))
       | (have bw1:Below (w7.alloc (.cells #[.bool false,.slice none 0 0,.slice none 0 0] 27)).drew.heap.size (w7.alloc (.cells #[.bool false,.slice none 0 0,.slice none 0 0] 27)).drew w8:=(by with_reducible exact bw);have BB:=hd_ (ab_ (G2 _) bw1);have Z4:=hd_ (ac_ (w:=(w7.alloc (.cells #[.bool false,.slice none 0 0,.slice none 0 0] 27)).drew) (ai_ w7 #[.bool false,.slice none 0 0,.slice none 0 0] 27) bw1);have ZL:Hid (w7.heap.size≤w7.heap.size):=hd_ (Nat.le_refl _)));have hn4:n4≤2:=Nat.le_trans (Nat.le_of_eq h4.len.symm) (Nat.le_trans (a8_ _) HLZ.out);have hm4:m4≤2:=Nat.le_trans (Nat.le_of_eq g4.len.symm) (Nat.le_trans (a7_ _) HLZ.out);have A4:=hd_ h4;have D4:=hd_ g4;clear bw bw1 h4 g4 qS qA;unfold frV;have qS:=aq_ HEA.out BB.out;have qA:=fun o=>aq_ HEA.out (ab_ BB.out (aa_ w8 o)))
     | (go_at_call 54;(first
       | (have zz:=Z4.out;refine (HQU _ _ _ _ _ _ _ BB.out A4.out D4.out hn4 hm4).mono ?_;rintro e w9 ⟨a5,n5,c5,b5,m5,d5,rfl,h5,g5,bw⟩;replace Z4:=bl_ Z4 bw;have BC:=hd_ (ab_ BB.out bw);have A5:=hd_ h5;have D5:=hd_ g5;clear zz h5 g5 bw;unfold frV;obtain⟨z0,z1',z2⟩:=as_ Z4.out;have f0:=ad_ Z4.out 0;have f1:=ad_ Z4.out 1;have f2:=ad_ Z4.out 2;have qC:=aq_ HEA.out (az_ BC.out (Nat.le_refl _) (.bool (zneg cq.num)) (.slice a5 n5 c5) (.slice b5 m5 d5));clear qS qA;have qS:=aq_ HEA.out BC.out;have qA:=fun o=>aq_ HEA.out (ab_ BC.out (aa_ w9 o)))
       | (refine (HQU _ _ _ _ _ _ _ BB.out A4.out D4.out hn4 hm4).mono ?_;rintro e w9 ⟨a5,n5,c5,b5,m5,d5,rfl,h5,g5,bw⟩;have BC:=hd_ (ab_ BB.out bw);have A5:=hd_ h5;have D5:=hd_ g5;clear h5 g5 bw;unfold frV;clear qS qA;have qS:=aq_ HEA.out BC.out;have qA:=fun o=>aq_ HEA.out (ab_ BC.out (aa_ w9 o)))
       | (have BA:=ab_ BB.out (aa_ w8 (.cells #[.bool false,.slice none 0 0,.slice none 0 0] 27));refine (HQU _ _ _ _ _ _ _ BA (A4.out.later (aa_ w8 _)) (D4.out.later (aa_ w8 _)) hn4 hm4).mono ?_;rintro e w9 ⟨a5,n5,c5,b5,m5,d5,rfl,h5,g5,bw⟩;have Z4:=hd_ (ac_ (ai_ w8 #[.bool false,.slice none 0 0,.slice none 0 0] 27) bw);have BC:=hd_ (ab_ BA bw);have A5:=hd_ h5;have D5:=hd_ g5;clear BA h5 g5 bw;unfold frV;obtain⟨z0,z1',z2⟩:=as_ Z4.out;have f0:=ad_ Z4.out 0;have f1:=ad_ Z4.out 1;have f2:=ad_ Z4.out 2;have qC:=aq_ HEA.out (az_ BC.out BB.out.size (.bool (zneg cq.num)) (.slice a5 n5 c5) (.slice b5 m5 d5));clear qS qA;have qS:=aq_ HEA.out BC.out;have qA:=fun o=>aq_ HEA.out (ab_ BC.out (aa_ w9 o))))))
    all_goals (
     go_wp2
     go_meet
     (first
       | exact⟨w7.heap.size,a5,n5,c5,b5,m5,d5,rfl,hd_ (bm_ Z4.out (.bool (zneg cq.num)) (.slice a5 n5 c5) (.slice b5 m5 d5)),hd_ (A5.out.stored3 Z4.out (zneg cq.num) a5 n5 c5 (.slice b5 m5 d5)),hd_ (D5.out.stored3 Z4.out (zneg cq.num) a5 n5 c5 (.slice b5 m5 d5)),hd_ (az_ BC.out (Nat.le_refl _) (.bool (zneg cq.num)) (.slice a5 n5 c5) (.slice b5 m5 d5)),hd_ (Nat.le_refl _)⟩
       | exact⟨w8.heap.size,a5,n5,c5,b5,m5,d5,rfl,hd_ (bm_ Z4.out (.bool (zneg cq.num)) (.slice a5 n5 c5) (.slice b5 m5 d5)),hd_ (A5.out.stored3 Z4.out (zneg cq.num) a5 n5 c5 (.slice b5 m5 d5)),hd_ (D5.out.stored3 Z4.out (zneg cq.num) a5 n5 c5 (.slice b5 m5 d5)),hd_ (az_ BC.out BB.out.size (.bool (zneg cq.num)) (.slice a5 n5 c5) (.slice b5 m5 d5)),hd_ BB.out.size⟩
       | exact⟨w9.heap.size,a5,n5,c5,b5,m5,d5,rfl,hd_ (ai_ w9 _ 27),hd_ (A5.out.later (aa_ w9 _)),hd_ (D5.out.later (aa_ w9 _)),hd_ (ab_ BC.out (aa_ w9 _)),hd_ BC.out.size⟩))
   case rest=>
    obtain⟨g2,a5,n5,c5,b5,m5,d5,rfl,CB,A5,D5,HBc,HGE⟩:=hcut
    have hsz7:w.heap.size+1 < w7.heap.size:=(Array.getElem?_eq_some_iff.1 R0.out).1
    have hne:g2≠w.heap.size+1:=by have:=HGE.out;omega
    have hn5:n5≤2000000000:=by rw[←A5.out.len];exact Nat.le_trans (a8_ _) HLC.out
    have hm5:m5≤2000000000:=by rw[←D5.out.len];exact Nat.le_trans (a7_ _) HLC.out
    replace HB:=hd_ (ab_ HB.out HBc.out)
    replace R0:=hd_ (ac_ R0.out HBc.out)
    replace XR:=hd_ (XR.out.later HBc.out)
    replace YR:=hd_ (YR.out.later HBc.out)
    clear HBc HGE hi2 hw2 hl2 HI1 HEA QA QD ECQ HLC HLZ
    go_wp2
    have b0:Below wc.heap.size wc wc.drew:=(Below.refl _ _).drew
    replace HB:=bt_ HB b0
    replace R0:=bl_ R0 b0
    replace CB:=bl_ CB b0
    replace XR:=XR.l_ b0
    replace YR:=YR.l_ b0
    replace A5:=A5.l_ b0
    replace D5:=D5.l_ b0
    clear b0
    have qS:=as_ CB.out
    go_region_held3 (fun w'=>w'.cell? ⟨g2,0,none⟩=some (.bool (zneg cq.num))∧w'.cell? ⟨g2,1,none⟩=some (.slice a5 n5 c5)∧w'.cell? ⟨g2,2,none⟩=some (.slice b5 m5 d5)) (first | with_reducible exact qS | with_reducible exact qC)
     (first
     | (go_at_call 55;(first
       | (have zz:=S1.out;clear zz;refine (HSY _ _ (Rt.of A5.out D5.out hn5 hm5) YR.out).mono ?_;rintro e w11 ⟨a13,n13,c13,rfl,h13,bw⟩;replace HB:=bt_ HB bw;replace R0:=bl_ R0 bw;replace CB:=bl_ CB bw;replace S1:=S1.l_ bw;have S2:=hd_ h13;clear h13 bw;obtain⟨y0,y1⟩:=a0_ R0.out;have f0:=ad_ R0.out 0;have f1:=ad_ R0.out 1;have qC:=as_ (bh_ CB.out hne (.slice a12 n12 c12) (.slice a13 n13 c13));clear qS;have qS:=as_ CB.out)
       | (refine (HSX _ _ (Rt.of A5.out D5.out hn5 hm5) XR.out).mono ?_;rintro e w10 ⟨a12,n12,c12,rfl,h12,bw⟩;replace HB:=bt_ HB bw;replace R0:=bl_ R0 bw;replace CB:=bl_ CB bw;replace YR:=YR.l_ bw;replace A5:=A5.l_ bw;replace D5:=D5.l_ bw;have S1:=hd_ h12;clear h12 bw qS;have qS:=as_ CB.out))))
    all_goals (
     have R9:=hd_ (a4_ R0.out (.slice a12 n12 c12) (.slice a13 n13 c13))
     have P9:=hd_ (S1.out.boxed R0.out (.slice a12 n12 c12) (.slice a13 n13 c13))
     have Q9:=hd_ (S2.out.boxed R0.out (.slice a12 n12 c12) (.slice a13 n13 c13))
     have G9:=hd_ (an_ HB.out (show w.heap.size≤w.heap.size+1 by omega) (.slice a12 n12 c12) (.slice a13 n13 c13))
     clear R0 CB S1 S2 HB
     go_wp2
     refine bodyPost_ret (results_cell_row Tryz.results10 _ _ (w.heap.size+1) 24 #[.slice a12 n12 c12,.slice a13 n13 c13] (0,0) _ rfl R9.out Tryz.underlying24 rfl (by kernel_rfl)) rfl ?_
     exact⟨a12,n12,c12,xs,a13,n13,c13,ys,rfl,P9.out,Q9.out,HFN.out,G9.out⟩)

theorem pr_{h s:Nat}(hk:Fok h s):(h+1) * (s+12)≤2000000000:=by
 obtain⟨h1,h2,h3⟩:=hk
 have g1:(h+1) * (s+12)=(h+1) * (s+1)+(h+1) * 11:=by rw[←Nat.mul_add]
 have g2:(h+1) * (s+1)≤(2 * h+1) * (s+1):=Nat.mul_le_mul_right _ (by omega)
 have g3:(s+1) * (2 * h+1)≤2 * h * ((s+1) * (2 * h+1)):=Nat.le_mul_of_pos_left _ (by omega)
 have g4:2 * h * ((s+1) * (2 * h+1)+3)=2 * h * ((s+1) * (2 * h+1))+2 * h * 3:=Nat.mul_add _ _ _
 rw[g4] at h3
 rw[Nat.mul_comm (2 * h+1)] at g2
 omega
theorem Fz.congr{U V U' V':List Rat}{h s:Nat}(f:Fz U V h s)(hU:peq U U')(hV:peq V V')(lu:U'.length≤h)(lv:V'.length≤h):Fz U' V' h s:=by
 obtain⟨_,_,c,c1,c2,c3,c4⟩:=f
 exact⟨lu,lv,c,c1,c2,c3.congr (b0_ _ hU),c4.congr (b0_ _ hV)⟩
theorem fo_(a:OA_)(n c:Nat)(p:LR_)(b:OA_)(m d:Nat)(q:LR_){U V:List Rat}{h s:Nat}(w:World)(hp:Rw w a n c p)(hq:Rw w b m d q)(eU:peq U p)(eV:peq V q)(hz:Fz U V h s)(lp:p.length≤h)(lq:q.length≤h)(hk:Fok h s) :
 Calls Tryz.prog 10 #[.agg #[.slice a n c,.slice b m d]] w (LstF U V w):=by
 have hz2:=hz.congr eU eV lp lq
 have hs:=pr_ hk
 have hs2:s+12≤2000000000:=Nat.le_trans (Nat.le_mul_of_pos_left _ (by omega)) hs
 obtain⟨L,h1,h2,h3⟩:=hp.thin (N:=2000000000) (fun q hq=>Nat.le_trans (hz2.qlen q hq) (by omega))
 obtain⟨M,k1,k2,k3⟩:=hq.thin (N:=2000000000) (fun q hq=>Nat.le_trans (hz2.swap.qlen q hq) (by omega))
 refine (m9_ a n c L b m d M h s w h1 k1 h3 k3 (by rw[h2,k2];exact hz2) hk).mono fun e w' h9=>?_
 obtain⟨a1,n1,c1,u,b1,m1,d1,v,g1,g2,g3,g4,g5⟩:=h9
 rw[h2,k2] at g4
 exact⟨a1,n1,c1,u,b1,m1,d1,v,g1,g2,g3,g4.of eU.symm eV.symm,g5⟩
theorem iy_(a1:OA_)(n1 c1:Nat)(u1:LR_)(b1:OA_)(m1 d1:Nat)(v1:LR_)(a2:OA_)(n2 c2:Nat)(u2:LR_)(b2:OA_)(m2 d2:Nat)(v2:LR_){h1 r1 h2 r2:Nat}(w:World)(ha1:Rw w a1 n1 c1 u1)(hb1:Rw w b1 m1 d1 v1)(f1:Fz u1 v1 h1 r1)(ha2:Rw w a2 n2 c2 u2)(hb2:Rw w b2 m2 d2 v2)(f2:Fz u2 v2 h2 r2)(hk:Fok (h1+h2) (r1+r2+2)) :
 Calls Tryz.prog 39 #[.agg #[.slice a1 n1 c1,.slice b1 m1 d1],.agg #[.slice a2 n2 c2,.slice b2 m2 d2]] w (LstF (pmul u1 u2) (pmul v1 v2) w):=by
 have hmul:=pr_ hk
 have hh50:h1+h2≤50:=hk.2.1
 have lu1:u1.length≤h1:=f1.lu
 have lv1:v1.length≤h1:=f1.lv
 have qu1:=f1.qlen
 have qv1:=f1.swap.qlen
 have lu2:u2.length≤h2:=f2.lu
 have lv2:v2.length≤h2:=f2.lv
 have qu2:=f2.qlen
 have qv2:=f2.swap.qlen
 obtain⟨p3,hp3⟩:∃l,ah_ (pmul u1 u2)=l:=⟨_,rfl⟩
 have lp3:p3.length≤h1+h2:=by rw[←hp3];exact Nat.le_trans (ax_ _) (Nat.le_trans (b1_ _ _) (by have:=lu1;have:=lu2;omega))
 have hb3:(u1.length+1) * (r1+2+(r2+2)+8)≤2000000000:=Nat.le_trans (Nat.mul_le_mul (by have:=lu1;omega) (by omega)) hmul
 have lq3:∀q∈p3,qlen q≤2000000000:=fun q hq=>by
  have h9:=ee_ (A:=r1+2) (B:=r2+2) (by omega) (by omega) qu1 qu2 q (hp3▸hq)
  have h8:u1.length * (r1+2+(r2+2)+3)≤u1.length * (r1+2+(r2+2)+8):=Nat.mul_le_mul_left _ (by omega)
  rw[Nat.add_mul,Nat.one_mul] at hb3
  omega
 have HM3:∀w':World,Rw w' a1 n1 c1 u1→Rw w' a2 n2 c2 u2→Calls Tryz.prog 80 #[.slice a1 n1 c1,.slice a2 n2 c2] w' (b8_ p3 w'):=fun w' h8 h9=>hp3▸fv_ a1 n1 c1 u1 a2 n2 c2 u2 (r1+2) (r2+2) w' h8 h9 (by have:=h8.len;have:=lu1;omega) (by have:=h9.len;have:=lu2;omega) qu1 qu2 (by omega) (by omega) (by rw[←h8.len];omega)
 obtain⟨p4,hp4⟩:∃l,ah_ (pmul v1 v2)=l:=⟨_,rfl⟩
 have lp4:p4.length≤h1+h2:=by rw[←hp4];exact Nat.le_trans (ax_ _) (Nat.le_trans (b1_ _ _) (by have:=lv1;have:=lv2;omega))
 have hb4:(v1.length+1) * (r1+2+(r2+2)+8)≤2000000000:=Nat.le_trans (Nat.mul_le_mul (by have:=lv1;omega) (by omega)) hmul
 have lq4:∀q∈p4,qlen q≤2000000000:=fun q hq=>by
  have h9:=ee_ (A:=r1+2) (B:=r2+2) (by omega) (by omega) qv1 qv2 q (hp4▸hq)
  have h8:v1.length * (r1+2+(r2+2)+3)≤v1.length * (r1+2+(r2+2)+8):=Nat.mul_le_mul_left _ (by omega)
  rw[Nat.add_mul,Nat.one_mul] at hb4
  omega
 have HM4:∀w':World,Rw w' b1 m1 d1 v1→Rw w' b2 m2 d2 v2→Calls Tryz.prog 80 #[.slice b1 m1 d1,.slice b2 m2 d2] w' (b8_ p4 w'):=fun w' h8 h9=>hp4▸fv_ b1 m1 d1 v1 b2 m2 d2 v2 (r1+2) (r2+2) w' h8 h9 (by have:=h8.len;have:=lv1;omega) (by have:=h9.len;have:=lv2;omega) qv1 qv2 (by omega) (by omega) (by rw[←h8.len];omega)
 have HNO:∀(w':World) (a3:OA_) (n3 c3:Nat) (b3:OA_) (m3 d3:Nat),Rw w' a3 n3 c3 p3→Rw w' b3 m3 d3 p4→Calls Tryz.prog 10 #[.agg #[.slice a3 n3 c3,.slice b3 m3 d3]] w' (LstF (pmul u1 u2) (pmul v1 v2) w'):=fun w' a3 n3 c3 b3 m3 d3 h8 h9=>fo_ a3 n3 c3 p3 b3 m3 d3 p4 w' h8 h9 (hp3▸(ar_ _).symm) (hp4▸(ar_ _).symm) (f1.mul f2 (by omega)) lp3 lp4 hk
 have HB:=hd_ (ab_ (ab_ (aa_ w (.cells #[.slice a1 n1 c1,.slice b1 m1 d1] 24)) (aa_ _ (.cells #[.slice a2 n2 c2,.slice b2 m2 d2] 24))) (aa_ _ (.cells #[.slice none 0 0,.slice none 0 0] 24)))
 have X0:Hid ((((w.alloc (.cells #[.slice a1 n1 c1,.slice b1 m1 d1] 24)).alloc (.cells #[.slice a2 n2 c2,.slice b2 m2 d2] 24)).alloc (.cells #[.slice none 0 0,.slice none 0 0] 24)).heap[w.heap.size]? = some (.cells #[.slice a1 n1 c1,.slice b1 m1 d1] 24 (0,0))):=hd_ (ac_ (ac_ (ai_ w _ _) (aa_ _ (.cells #[.slice a2 n2 c2,.slice b2 m2 d2] 24))) (aa_ _ (.cells #[.slice none 0 0,.slice none 0 0] 24)))
 have X1:Hid ((((w.alloc (.cells #[.slice a1 n1 c1,.slice b1 m1 d1] 24)).alloc (.cells #[.slice a2 n2 c2,.slice b2 m2 d2] 24)).alloc (.cells #[.slice none 0 0,.slice none 0 0] 24)).heap[w.heap.size+1]? = some (.cells #[.slice a2 n2 c2,.slice b2 m2 d2] 24 (0,0))):=hd_ (ac_ (by have h9:=ai_ (w.alloc (.cells #[.slice a1 n1 c1,.slice b1 m1 d1] 24)) #[.slice a2 n2 c2,.slice b2 m2 d2] 24;rwa [al_] at h9) (aa_ _ (.cells #[.slice none 0 0,.slice none 0 0] 24)))
 have R0:Hid ((((w.alloc (.cells #[.slice a1 n1 c1,.slice b1 m1 d1] 24)).alloc (.cells #[.slice a2 n2 c2,.slice b2 m2 d2] 24)).alloc (.cells #[.slice none 0 0,.slice none 0 0] 24)).heap[w.heap.size+1+1]? = some (.cells #[.slice none 0 0,.slice none 0 0] 24 (0,0))):=hd_ (by have h9:=ai_ ((w.alloc (.cells #[.slice a1 n1 c1,.slice b1 m1 d1] 24)).alloc (.cells #[.slice a2 n2 c2,.slice b2 m2 d2] 24)) #[.slice none 0 0,.slice none 0 0] 24;rwa [al_,al_] at h9)
 have A1:=hd_ (ha1.later HB.out)
 have B1:=hd_ (hb1.later HB.out)
 have A2:=hd_ (ha2.later HB.out)
 have B2:=hd_ (hb2.later HB.out)
 clear ha1 hb1 f1 ha2 hb2 f2 hk hmul hh50 lu1 lv1 qu1 qv1 lu2 lv2 qu2 qv2 hp3 lp3 hb3 lq3 hp4 lp4 hb4 lq4
 go_enter Tryz.func39,Tryz.ntmps39
 go_wp2
 generalize (((w.alloc (.cells #[.slice a1 n1 c1,.slice b1 m1 d1] 24)).alloc (.cells #[.slice a2 n2 c2,.slice b2 m2 d2] 24)).alloc (.cells #[.slice none 0 0,.slice none 0 0] 24))=W at *
 replace HB:=bt_ HB (dw_ W)
 replace X0:Hid (W.drew.heap[w.heap.size]? = _):=hd_ X0.out
 replace X1:Hid (W.drew.heap[w.heap.size+1]? = _):=hd_ X1.out
 replace R0:Hid (W.drew.heap[w.heap.size+1+1]? = some (.cells #[.slice none 0 0,.slice none 0 0] 24 (0,0))):=hd_ R0.out
 replace A1:=A1.l_ (dw_ W)
 replace B1:=B1.l_ (dw_ W)
 replace A2:=A2.l_ (dw_ W)
 replace B2:=B2.l_ (dw_ W)
 have pSn:=am_ X0.out X1.out
 go_region_held3 (fun w'=>w'.cell? ⟨w.heap.size,0,none⟩=some (.slice a1 n1 c1)∧w'.cell? ⟨w.heap.size,1,none⟩=some (.slice b1 m1 d1)∧w'.cell? ⟨w.heap.size+1,0,none⟩=some (.slice a2 n2 c2)∧w'.cell? ⟨w.heap.size+1,1,none⟩=some (.slice b2 m2 d2)) (first | exact pSn | exact pSb _ _)
  (first
  | (go_at_call 80;(first
    | (have pm1:=pM1;refine (HM4 _ B1.out B2.out).mono ?_;rintro e wp2 ⟨a22,n22,c22,rfl,h22,b⟩;replace HB:=bt_ HB b;replace X0:=bl_ X0 b;replace X1:=bl_ X1 b;replace R0:=bl_ R0 b;replace A1:=A1.l_ b;replace B1:=B1.l_ b;replace A2:=A2.l_ b;replace B2:=B2.l_ b;replace P3:=P3.l_ b;have P4:=hd_ h22;clear h22;clear b;clear pSn;have pSn:=am_ X0.out X1.out;clear pM1 pm1;have pM2:=True.intro)
    | (refine (HM3 _ A1.out A2.out).mono ?_;rintro e wp1 ⟨a21,n21,c21,rfl,h21,b⟩;replace HB:=bt_ HB b;replace X0:=bl_ X0 b;replace X1:=bl_ X1 b;replace R0:=bl_ R0 b;replace A1:=A1.l_ b;replace B1:=B1.l_ b;replace A2:=A2.l_ b;replace B2:=B2.l_ b;have P3:=hd_ h21;clear h21;clear b;clear pSn;have pSn:=am_ X0.out X1.out;have pM1:=True.intro)))
  | (go_at_call 10;(first
    | (have pm2:=pM2;refine (HNO _ _ _ _ _ _ _ P3.out P4.out).mono ?_;rintro e wp3 ⟨a23,n23,c23,u23,b23,m23,d23,v23,rfl,h23,g23,k23,b⟩;replace HB:=bt_ HB b;replace X0:=bl_ X0 b;replace X1:=bl_ X1 b;replace R0:=bl_ R0 b;replace A1:=A1.l_ b;replace B1:=B1.l_ b;replace A2:=A2.l_ b;replace B2:=B2.l_ b;replace P3:=P3.l_ b;replace P4:=P4.l_ b;have F23:=hd_ h23;have G23:=hd_ g23;have K23:=hd_ k23;clear h23 g23 k23;obtain⟨r0,r1⟩:=a0_ R0.out;have e0:=ad_ R0.out 0;have e1:=ad_ R0.out 1;have pSb:=fun u v=>am_ (bh_ (g:=w.heap.size+1+1) X0.out (by omega) u v) (bh_ (g:=w.heap.size+1+1) X1.out (by omega) u v);clear b;clear pSn;have pSn:=am_ X0.out X1.out;clear pM2 pm2;have pM3:=True.intro))))
 have R9:=hd_ (a4_ R0.out (.slice a23 n23 c23) (.slice b23 m23 d23))
 have P9:=hd_ (F23.out.boxed R0.out (.slice a23 n23 c23) (.slice b23 m23 d23))
 have Q9:=hd_ (G23.out.boxed R0.out (.slice a23 n23 c23) (.slice b23 m23 d23))
 have G9:=hd_ (an_ HB.out (show w.heap.size≤w.heap.size+1+1 by omega) (.slice a23 n23 c23) (.slice b23 m23 d23))
 go_wp2
 refine bodyPost_ret (results_cell_row Tryz.results39 _ _ (w.heap.size+1+1) 24 #[.slice a23 n23 c23,.slice b23 m23 d23] (0,0) _ rfl R9.out Tryz.underlying24 rfl (by kernel_rfl)) rfl ?_
 exact⟨a23,n23,c23,u23,b23,m23,d23,v23,rfl,P9.out,Q9.out,K23.out,G9.out⟩
theorem p5_(a1:OA_)(n1 c1:Nat)(u1:LR_)(b1:OA_)(m1 d1:Nat)(v1:LR_)(a2:OA_)(n2 c2:Nat)(u2:LR_)(b2:OA_)(m2 d2:Nat)(v2:LR_){h1 r1 h2 r2:Nat}(w:World)(ha1:Rw w a1 n1 c1 u1)(hb1:Rw w b1 m1 d1 v1)(f1:Fz u1 v1 h1 r1)(ha2:Rw w a2 n2 c2 u2)(hb2:Rw w b2 m2 d2 v2)(f2:Fz u2 v2 h2 r2)(hk:Fok (h1+h2) (r1+r2+2)) :
 Calls Tryz.prog 30 #[.agg #[.slice a1 n1 c1,.slice b1 m1 d1],.agg #[.slice a2 n2 c2,.slice b2 m2 d2]] w (LstF (pmul u1 v2) (pmul v1 u2) w):=by
 have hmul:=pr_ hk
 have hh50:h1+h2≤50:=hk.2.1
 have lu1:u1.length≤h1:=f1.lu
 have lv1:v1.length≤h1:=f1.lv
 have qu1:=f1.qlen
 have qv1:=f1.swap.qlen
 have lu2:u2.length≤h2:=f2.lu
 have lv2:v2.length≤h2:=f2.lv
 have qu2:=f2.qlen
 have qv2:=f2.swap.qlen
 obtain⟨p3,hp3⟩:∃l,ah_ (pmul u1 v2)=l:=⟨_,rfl⟩
 have lp3:p3.length≤h1+h2:=by rw[←hp3];exact Nat.le_trans (ax_ _) (Nat.le_trans (b1_ _ _) (by have:=lu1;have:=lv2;omega))
 have hb3:(u1.length+1) * (r1+2+(r2+2)+8)≤2000000000:=Nat.le_trans (Nat.mul_le_mul (by have:=lu1;omega) (by omega)) hmul
 have lq3:∀q∈p3,qlen q≤2000000000:=fun q hq=>by
  have h9:=ee_ (A:=r1+2) (B:=r2+2) (by omega) (by omega) qu1 qv2 q (hp3▸hq)
  have h8:u1.length * (r1+2+(r2+2)+3)≤u1.length * (r1+2+(r2+2)+8):=Nat.mul_le_mul_left _ (by omega)
  rw[Nat.add_mul,Nat.one_mul] at hb3
  omega
 have HM3:∀w':World,Rw w' a1 n1 c1 u1→Rw w' b2 m2 d2 v2→Calls Tryz.prog 80 #[.slice a1 n1 c1,.slice b2 m2 d2] w' (b8_ p3 w'):=fun w' h8 h9=>hp3▸fv_ a1 n1 c1 u1 b2 m2 d2 v2 (r1+2) (r2+2) w' h8 h9 (by have:=h8.len;have:=lu1;omega) (by have:=h9.len;have:=lv2;omega) qu1 qv2 (by omega) (by omega) (by rw[←h8.len];omega)
 obtain⟨p4,hp4⟩:∃l,ah_ (pmul v1 u2)=l:=⟨_,rfl⟩
 have lp4:p4.length≤h1+h2:=by rw[←hp4];exact Nat.le_trans (ax_ _) (Nat.le_trans (b1_ _ _) (by have:=lv1;have:=lu2;omega))
 have hb4:(v1.length+1) * (r1+2+(r2+2)+8)≤2000000000:=Nat.le_trans (Nat.mul_le_mul (by have:=lv1;omega) (by omega)) hmul
 have lq4:∀q∈p4,qlen q≤2000000000:=fun q hq=>by
  have h9:=ee_ (A:=r1+2) (B:=r2+2) (by omega) (by omega) qv1 qu2 q (hp4▸hq)
  have h8:v1.length * (r1+2+(r2+2)+3)≤v1.length * (r1+2+(r2+2)+8):=Nat.mul_le_mul_left _ (by omega)
  rw[Nat.add_mul,Nat.one_mul] at hb4
  omega
 have HM4:∀w':World,Rw w' b1 m1 d1 v1→Rw w' a2 n2 c2 u2→Calls Tryz.prog 80 #[.slice b1 m1 d1,.slice a2 n2 c2] w' (b8_ p4 w'):=fun w' h8 h9=>hp4▸fv_ b1 m1 d1 v1 a2 n2 c2 u2 (r1+2) (r2+2) w' h8 h9 (by have:=h8.len;have:=lv1;omega) (by have:=h9.len;have:=lu2;omega) qv1 qu2 (by omega) (by omega) (by rw[←h8.len];omega)
 have HNO:∀(w':World) (a3:OA_) (n3 c3:Nat) (b3:OA_) (m3 d3:Nat),Rw w' a3 n3 c3 p3→Rw w' b3 m3 d3 p4→Calls Tryz.prog 10 #[.agg #[.slice a3 n3 c3,.slice b3 m3 d3]] w' (LstF (pmul u1 v2) (pmul v1 u2) w'):=fun w' a3 n3 c3 b3 m3 d3 h8 h9=>fo_ a3 n3 c3 p3 b3 m3 d3 p4 w' h8 h9 (hp3▸(ar_ _).symm) (hp4▸(ar_ _).symm) (f1.mul f2.swap (by omega)) lp3 lp4 hk
 have HB:=hd_ (ab_ (ab_ (aa_ w (.cells #[.slice a1 n1 c1,.slice b1 m1 d1] 24)) (aa_ _ (.cells #[.slice a2 n2 c2,.slice b2 m2 d2] 24))) (aa_ _ (.cells #[.slice none 0 0,.slice none 0 0] 24)))
 have X0:Hid ((((w.alloc (.cells #[.slice a1 n1 c1,.slice b1 m1 d1] 24)).alloc (.cells #[.slice a2 n2 c2,.slice b2 m2 d2] 24)).alloc (.cells #[.slice none 0 0,.slice none 0 0] 24)).heap[w.heap.size]? = some (.cells #[.slice a1 n1 c1,.slice b1 m1 d1] 24 (0,0))):=hd_ (ac_ (ac_ (ai_ w _ _) (aa_ _ (.cells #[.slice a2 n2 c2,.slice b2 m2 d2] 24))) (aa_ _ (.cells #[.slice none 0 0,.slice none 0 0] 24)))
 have X1:Hid ((((w.alloc (.cells #[.slice a1 n1 c1,.slice b1 m1 d1] 24)).alloc (.cells #[.slice a2 n2 c2,.slice b2 m2 d2] 24)).alloc (.cells #[.slice none 0 0,.slice none 0 0] 24)).heap[w.heap.size+1]? = some (.cells #[.slice a2 n2 c2,.slice b2 m2 d2] 24 (0,0))):=hd_ (ac_ (by have h9:=ai_ (w.alloc (.cells #[.slice a1 n1 c1,.slice b1 m1 d1] 24)) #[.slice a2 n2 c2,.slice b2 m2 d2] 24;rwa [al_] at h9) (aa_ _ (.cells #[.slice none 0 0,.slice none 0 0] 24)))
 have R0:Hid ((((w.alloc (.cells #[.slice a1 n1 c1,.slice b1 m1 d1] 24)).alloc (.cells #[.slice a2 n2 c2,.slice b2 m2 d2] 24)).alloc (.cells #[.slice none 0 0,.slice none 0 0] 24)).heap[w.heap.size+1+1]? = some (.cells #[.slice none 0 0,.slice none 0 0] 24 (0,0))):=hd_ (by have h9:=ai_ ((w.alloc (.cells #[.slice a1 n1 c1,.slice b1 m1 d1] 24)).alloc (.cells #[.slice a2 n2 c2,.slice b2 m2 d2] 24)) #[.slice none 0 0,.slice none 0 0] 24;rwa [al_,al_] at h9)
 have A1:=hd_ (ha1.later HB.out)
 have B1:=hd_ (hb1.later HB.out)
 have A2:=hd_ (ha2.later HB.out)
 have B2:=hd_ (hb2.later HB.out)
 clear ha1 hb1 f1 ha2 hb2 f2 hk hmul hh50 lu1 lv1 qu1 qv1 lu2 lv2 qu2 qv2 hp3 lp3 hb3 lq3 hp4 lp4 hb4 lq4
 go_enter Tryz.func30,Tryz.ntmps30
 go_wp2
 generalize (((w.alloc (.cells #[.slice a1 n1 c1,.slice b1 m1 d1] 24)).alloc (.cells #[.slice a2 n2 c2,.slice b2 m2 d2] 24)).alloc (.cells #[.slice none 0 0,.slice none 0 0] 24))=W at *
 replace HB:=bt_ HB (dw_ W)
 replace X0:Hid (W.drew.heap[w.heap.size]? = _):=hd_ X0.out
 replace X1:Hid (W.drew.heap[w.heap.size+1]? = _):=hd_ X1.out
 replace R0:Hid (W.drew.heap[w.heap.size+1+1]? = some (.cells #[.slice none 0 0,.slice none 0 0] 24 (0,0))):=hd_ R0.out
 replace A1:=A1.l_ (dw_ W)
 replace B1:=B1.l_ (dw_ W)
 replace A2:=A2.l_ (dw_ W)
 replace B2:=B2.l_ (dw_ W)
 have pSn:=am_ X0.out X1.out
 go_region_held3 (fun w'=>w'.cell? ⟨w.heap.size,0,none⟩=some (.slice a1 n1 c1)∧w'.cell? ⟨w.heap.size,1,none⟩=some (.slice b1 m1 d1)∧w'.cell? ⟨w.heap.size+1,0,none⟩=some (.slice a2 n2 c2)∧w'.cell? ⟨w.heap.size+1,1,none⟩=some (.slice b2 m2 d2)) (first | exact pSn | exact pSb _ _)
  (first
  | (go_at_call 80;(first
    | (have pm1:=pM1;refine (HM4 _ B1.out A2.out).mono ?_;rintro e wp2 ⟨a22,n22,c22,rfl,h22,b⟩;replace HB:=bt_ HB b;replace X0:=bl_ X0 b;replace X1:=bl_ X1 b;replace R0:=bl_ R0 b;replace A1:=A1.l_ b;replace B1:=B1.l_ b;replace A2:=A2.l_ b;replace B2:=B2.l_ b;replace P3:=P3.l_ b;have P4:=hd_ h22;clear h22;clear b;clear pSn;have pSn:=am_ X0.out X1.out;clear pM1 pm1;have pM2:=True.intro)
    | (refine (HM3 _ A1.out B2.out).mono ?_;rintro e wp1 ⟨a21,n21,c21,rfl,h21,b⟩;replace HB:=bt_ HB b;replace X0:=bl_ X0 b;replace X1:=bl_ X1 b;replace R0:=bl_ R0 b;replace A1:=A1.l_ b;replace B1:=B1.l_ b;replace A2:=A2.l_ b;replace B2:=B2.l_ b;have P3:=hd_ h21;clear h21;clear b;clear pSn;have pSn:=am_ X0.out X1.out;have pM1:=True.intro)))
  | (go_at_call 10;(first
    | (have pm2:=pM2;refine (HNO _ _ _ _ _ _ _ P3.out P4.out).mono ?_;rintro e wp3 ⟨a23,n23,c23,u23,b23,m23,d23,v23,rfl,h23,g23,k23,b⟩;replace HB:=bt_ HB b;replace X0:=bl_ X0 b;replace X1:=bl_ X1 b;replace R0:=bl_ R0 b;replace A1:=A1.l_ b;replace B1:=B1.l_ b;replace A2:=A2.l_ b;replace B2:=B2.l_ b;replace P3:=P3.l_ b;replace P4:=P4.l_ b;have F23:=hd_ h23;have G23:=hd_ g23;have K23:=hd_ k23;clear h23 g23 k23;obtain⟨r0,r1⟩:=a0_ R0.out;have e0:=ad_ R0.out 0;have e1:=ad_ R0.out 1;have pSb:=fun u v=>am_ (bh_ (g:=w.heap.size+1+1) X0.out (by omega) u v) (bh_ (g:=w.heap.size+1+1) X1.out (by omega) u v);clear b;clear pSn;have pSn:=am_ X0.out X1.out;clear pM2 pm2;have pM3:=True.intro))))
 have R9:=hd_ (a4_ R0.out (.slice a23 n23 c23) (.slice b23 m23 d23))
 have P9:=hd_ (F23.out.boxed R0.out (.slice a23 n23 c23) (.slice b23 m23 d23))
 have Q9:=hd_ (G23.out.boxed R0.out (.slice a23 n23 c23) (.slice b23 m23 d23))
 have G9:=hd_ (an_ HB.out (show w.heap.size≤w.heap.size+1+1 by omega) (.slice a23 n23 c23) (.slice b23 m23 d23))
 go_wp2
 refine bodyPost_ret (results_cell_row Tryz.results30 _ _ (w.heap.size+1+1) 24 #[.slice a23 n23 c23,.slice b23 m23 d23] (0,0) _ rfl R9.out Tryz.underlying24 rfl (by kernel_rfl)) rfl ?_
 exact⟨a23,n23,c23,u23,b23,m23,d23,v23,rfl,P9.out,Q9.out,K23.out,G9.out⟩
theorem i0_(a1:OA_)(n1 c1:Nat)(u1:LR_)(b1:OA_)(m1 d1:Nat)(v1:LR_)(a2:OA_)(n2 c2:Nat)(u2:LR_)(b2:OA_)(m2 d2:Nat)(v2:LR_){h1 r1 h2 r2:Nat}(w:World)(ha1:Rw w a1 n1 c1 u1)(hb1:Rw w b1 m1 d1 v1)(f1:Fz u1 v1 h1 r1)(ha2:Rw w a2 n2 c2 u2)(hb2:Rw w b2 m2 d2 v2)(f2:Fz u2 v2 h2 r2)(hk:Fok (h1+h2) (r1+r2+2)) :
 Calls Tryz.prog 36 #[.agg #[.slice a1 n1 c1,.slice b1 m1 d1],.agg #[.slice a2 n2 c2,.slice b2 m2 d2]] w (LstF (padd (pmul u1 v2) (pmul u2 v1)) (pmul v1 v2) w):=by
 have hmul:=pr_ hk
 have hh50:h1+h2≤50:=hk.2.1
 have lu1:u1.length≤h1:=f1.lu
 have lv1:v1.length≤h1:=f1.lv
 have qu1:=f1.qlen
 have qv1:=f1.swap.qlen
 have lu2:u2.length≤h2:=f2.lu
 have lv2:v2.length≤h2:=f2.lv
 have qu2:=f2.qlen
 have qv2:=f2.swap.qlen
 obtain⟨p3,hp3⟩:∃l,ah_ (pmul u1 v2)=l:=⟨_,rfl⟩
 have lp3:p3.length≤h1+h2:=by rw[←hp3];exact Nat.le_trans (ax_ _) (Nat.le_trans (b1_ _ _) (by have:=lu1;have:=lv2;omega))
 have hb3:(u1.length+1) * (r1+2+(r2+2)+8)≤2000000000:=Nat.le_trans (Nat.mul_le_mul (by have:=lu1;omega) (by omega)) hmul
 have lq3:∀q∈p3,qlen q≤2000000000:=fun q hq=>by
  have h9:=ee_ (A:=r1+2) (B:=r2+2) (by omega) (by omega) qu1 qv2 q (hp3▸hq)
  have h8:u1.length * (r1+2+(r2+2)+3)≤u1.length * (r1+2+(r2+2)+8):=Nat.mul_le_mul_left _ (by omega)
  rw[Nat.add_mul,Nat.one_mul] at hb3
  omega
 have HM3:∀w':World,Rw w' a1 n1 c1 u1→Rw w' b2 m2 d2 v2→Calls Tryz.prog 80 #[.slice a1 n1 c1,.slice b2 m2 d2] w' (b8_ p3 w'):=fun w' h8 h9=>hp3▸fv_ a1 n1 c1 u1 b2 m2 d2 v2 (r1+2) (r2+2) w' h8 h9 (by have:=h8.len;have:=lu1;omega) (by have:=h9.len;have:=lv2;omega) qu1 qv2 (by omega) (by omega) (by rw[←h8.len];omega)
 obtain⟨p4,hp4⟩:∃l,ah_ (pmul u2 v1)=l:=⟨_,rfl⟩
 have lp4:p4.length≤h1+h2:=by rw[←hp4];exact Nat.le_trans (ax_ _) (Nat.le_trans (b1_ _ _) (by have:=lu2;have:=lv1;omega))
 have hb4:(u2.length+1) * (r2+2+(r1+2)+8)≤2000000000:=Nat.le_trans (Nat.mul_le_mul (by have:=lu2;omega) (by omega)) hmul
 have lq4:∀q∈p4,qlen q≤2000000000:=fun q hq=>by
  have h9:=ee_ (A:=r2+2) (B:=r1+2) (by omega) (by omega) qu2 qv1 q (hp4▸hq)
  have h8:u2.length * (r2+2+(r1+2)+3)≤u2.length * (r2+2+(r1+2)+8):=Nat.mul_le_mul_left _ (by omega)
  rw[Nat.add_mul,Nat.one_mul] at hb4
  omega
 have HM4:∀w':World,Rw w' a2 n2 c2 u2→Rw w' b1 m1 d1 v1→Calls Tryz.prog 80 #[.slice a2 n2 c2,.slice b1 m1 d1] w' (b8_ p4 w'):=fun w' h8 h9=>hp4▸fv_ a2 n2 c2 u2 b1 m1 d1 v1 (r2+2) (r1+2) w' h8 h9 (by have:=h8.len;have:=lu2;omega) (by have:=h9.len;have:=lv1;omega) qu2 qv1 (by omega) (by omega) (by rw[←h8.len];omega)
 obtain⟨p5,hp5⟩:∃l,ah_ (pmul v1 v2)=l:=⟨_,rfl⟩
 have lp5:p5.length≤h1+h2:=by rw[←hp5];exact Nat.le_trans (ax_ _) (Nat.le_trans (b1_ _ _) (by have:=lv1;have:=lv2;omega))
 have hb5:(v1.length+1) * (r1+2+(r2+2)+8)≤2000000000:=Nat.le_trans (Nat.mul_le_mul (by have:=lv1;omega) (by omega)) hmul
 have lq5:∀q∈p5,qlen q≤2000000000:=fun q hq=>by
  have h9:=ee_ (A:=r1+2) (B:=r2+2) (by omega) (by omega) qv1 qv2 q (hp5▸hq)
  have h8:v1.length * (r1+2+(r2+2)+3)≤v1.length * (r1+2+(r2+2)+8):=Nat.mul_le_mul_left _ (by omega)
  rw[Nat.add_mul,Nat.one_mul] at hb5
  omega
 have HM5:∀w':World,Rw w' b1 m1 d1 v1→Rw w' b2 m2 d2 v2→Calls Tryz.prog 80 #[.slice b1 m1 d1,.slice b2 m2 d2] w' (b8_ p5 w'):=fun w' h8 h9=>hp5▸fv_ b1 m1 d1 v1 b2 m2 d2 v2 (r1+2) (r2+2) w' h8 h9 (by have:=h8.len;have:=lv1;omega) (by have:=h9.len;have:=lv2;omega) qv1 qv2 (by omega) (by omega) (by rw[←h8.len];omega)
 obtain⟨up,hup⟩:∃l,ah_ (padd p3 p4)=l:=⟨_,rfl⟩
 have lup:up.length≤h1+h2:=by rw[←hup];exact Nat.le_trans (ax_ _) (Nat.le_trans (gw_ _ _) (by omega))
 have HAD:∀(w':World) (a3:OA_) (n3 c3:Nat) (a4:OA_) (n4 c4:Nat),Rw w' a3 n3 c3 p3→Rw w' a4 n4 c4 p4→Calls Tryz.prog 84 #[.slice a3 n3 c3,.slice a4 n4 c4] w' (b8_ up w'):=fun w' a3 n3 c3 a4 n4 c4 h8 h9=>hup▸l7_ a3 n3 c3 p3 a4 n4 c4 p4 w' h8 h9 (by have:=h8.len;omega) (by have:=h9.len;omega) (fun q hq=>Nat.le_trans (lq3 q hq) (by decide)) (fun q hq=>Nat.le_trans (lq4 q hq) (by decide))
 have HNO:∀(w':World) (a3:OA_) (n3 c3:Nat) (b3:OA_) (m3 d3:Nat),Rw w' a3 n3 c3 up→Rw w' b3 m3 d3 p5→Calls Tryz.prog 10 #[.agg #[.slice a3 n3 c3,.slice b3 m3 d3]] w' (LstF (padd (pmul u1 v2) (pmul u2 v1)) (pmul v1 v2) w'):=fun w' a3 n3 c3 b3 m3 d3 h8 h9=>fo_ a3 n3 c3 up b3 m3 d3 p5 w' h8 h9 (((ar_ (padd p3 p4)).trans (c5_ (hp3▸ar_ _) (hp4▸ar_ _))).symm.trans (hup▸peq.refl _)) (hp5▸(ar_ _).symm) (f1.add f2 (by omega) (by omega)) lup lp5 hk
 have HB:=hd_ (ab_ (ab_ (aa_ w (.cells #[.slice a1 n1 c1,.slice b1 m1 d1] 24)) (aa_ _ (.cells #[.slice a2 n2 c2,.slice b2 m2 d2] 24))) (aa_ _ (.cells #[.slice none 0 0,.slice none 0 0] 24)))
 have X0:Hid ((((w.alloc (.cells #[.slice a1 n1 c1,.slice b1 m1 d1] 24)).alloc (.cells #[.slice a2 n2 c2,.slice b2 m2 d2] 24)).alloc (.cells #[.slice none 0 0,.slice none 0 0] 24)).heap[w.heap.size]? = some (.cells #[.slice a1 n1 c1,.slice b1 m1 d1] 24 (0,0))):=hd_ (ac_ (ac_ (ai_ w _ _) (aa_ _ (.cells #[.slice a2 n2 c2,.slice b2 m2 d2] 24))) (aa_ _ (.cells #[.slice none 0 0,.slice none 0 0] 24)))
 have X1:Hid ((((w.alloc (.cells #[.slice a1 n1 c1,.slice b1 m1 d1] 24)).alloc (.cells #[.slice a2 n2 c2,.slice b2 m2 d2] 24)).alloc (.cells #[.slice none 0 0,.slice none 0 0] 24)).heap[w.heap.size+1]? = some (.cells #[.slice a2 n2 c2,.slice b2 m2 d2] 24 (0,0))):=hd_ (ac_ (by have h9:=ai_ (w.alloc (.cells #[.slice a1 n1 c1,.slice b1 m1 d1] 24)) #[.slice a2 n2 c2,.slice b2 m2 d2] 24;rwa [al_] at h9) (aa_ _ (.cells #[.slice none 0 0,.slice none 0 0] 24)))
 have R0:Hid ((((w.alloc (.cells #[.slice a1 n1 c1,.slice b1 m1 d1] 24)).alloc (.cells #[.slice a2 n2 c2,.slice b2 m2 d2] 24)).alloc (.cells #[.slice none 0 0,.slice none 0 0] 24)).heap[w.heap.size+1+1]? = some (.cells #[.slice none 0 0,.slice none 0 0] 24 (0,0))):=hd_ (by have h9:=ai_ ((w.alloc (.cells #[.slice a1 n1 c1,.slice b1 m1 d1] 24)).alloc (.cells #[.slice a2 n2 c2,.slice b2 m2 d2] 24)) #[.slice none 0 0,.slice none 0 0] 24;rwa [al_,al_] at h9)
 have A1:=hd_ (ha1.later HB.out)
 have B1:=hd_ (hb1.later HB.out)
 have A2:=hd_ (ha2.later HB.out)
 have B2:=hd_ (hb2.later HB.out)
 clear ha1 hb1 f1 ha2 hb2 f2 hk hmul hh50 lu1 lv1 qu1 qv1 lu2 lv2 qu2 qv2 hp3 lp3 hb3 lq3 hp4 lp4 hb4 lq4 hp5 lp5 hb5 lq5 hup lup
 go_enter Tryz.func36,Tryz.ntmps36
 go_wp2
 generalize (((w.alloc (.cells #[.slice a1 n1 c1,.slice b1 m1 d1] 24)).alloc (.cells #[.slice a2 n2 c2,.slice b2 m2 d2] 24)).alloc (.cells #[.slice none 0 0,.slice none 0 0] 24))=W at *
 replace HB:=bt_ HB (dw_ W)
 replace X0:Hid (W.drew.heap[w.heap.size]? = _):=hd_ X0.out
 replace X1:Hid (W.drew.heap[w.heap.size+1]? = _):=hd_ X1.out
 replace R0:Hid (W.drew.heap[w.heap.size+1+1]? = some (.cells #[.slice none 0 0,.slice none 0 0] 24 (0,0))):=hd_ R0.out
 replace A1:=A1.l_ (dw_ W)
 replace B1:=B1.l_ (dw_ W)
 replace A2:=A2.l_ (dw_ W)
 replace B2:=B2.l_ (dw_ W)
 have pSn:=am_ X0.out X1.out
 go_region_held3 (fun w'=>w'.cell? ⟨w.heap.size,0,none⟩=some (.slice a1 n1 c1)∧w'.cell? ⟨w.heap.size,1,none⟩=some (.slice b1 m1 d1)∧w'.cell? ⟨w.heap.size+1,0,none⟩=some (.slice a2 n2 c2)∧w'.cell? ⟨w.heap.size+1,1,none⟩=some (.slice b2 m2 d2)) (exact pSn)
  (first
  | (go_at_call 80;(first
    | (have pm1:=pM1;refine (HM4 _ A2.out B1.out).mono ?_;rintro e wp2 ⟨a22,n22,c22,rfl,h22,b⟩;replace HB:=bt_ HB b;replace X0:=bl_ X0 b;replace X1:=bl_ X1 b;replace R0:=bl_ R0 b;replace A1:=A1.l_ b;replace B1:=B1.l_ b;replace A2:=A2.l_ b;replace B2:=B2.l_ b;replace P3:=P3.l_ b;have P4:=hd_ h22;clear h22;clear b;clear pSn;have pSn:=am_ X0.out X1.out;clear pM1 pm1;have pM2:=True.intro)
    | (refine (HM3 _ A1.out B2.out).mono ?_;rintro e wp1 ⟨a21,n21,c21,rfl,h21,b⟩;replace HB:=bt_ HB b;replace X0:=bl_ X0 b;replace X1:=bl_ X1 b;replace R0:=bl_ R0 b;replace A1:=A1.l_ b;replace B1:=B1.l_ b;replace A2:=A2.l_ b;replace B2:=B2.l_ b;have P3:=hd_ h21;clear h21;clear b;clear pSn;have pSn:=am_ X0.out X1.out;have pM1:=True.intro)))
  | (go_at_call 84;(first
    | (have pm2:=pM2;refine (HAD _ _ _ _ _ _ _ P3.out P4.out).mono ?_;rintro e wp3 ⟨a23,n23,c23,rfl,h23,b⟩;replace HB:=bt_ HB b;replace X0:=bl_ X0 b;replace X1:=bl_ X1 b;replace R0:=bl_ R0 b;replace A1:=A1.l_ b;replace B1:=B1.l_ b;replace A2:=A2.l_ b;replace B2:=B2.l_ b;clear P3;clear P4;have UP:=hd_ h23;clear h23;clear b;clear pSn;have pSn:=am_ X0.out X1.out;clear pM2 pm2;have pM3:=True.intro))))
 obtain⟨x0,x1⟩:=a0_ X0.out
 obtain⟨x2,x3⟩:=a0_ X1.out
 go_wp2_with fail
 refine (HM5 _ B1.out B2.out).mono ?_
 rintro e w31 ⟨a31,n31,c31,rfl,h31,bw⟩
 clear x0 x1 x2 x3
 replace HB:=bt_ HB bw
 replace R0:=bl_ R0 bw
 replace UP:=UP.l_ bw
 have DN:=hd_ h31
 clear h31 bw
 go_wp2_with fail
 refine (HNO _ _ _ _ _ _ _ UP.out DN.out).mono ?_
 rintro e w32 ⟨a32,n32,c32,u32,b32,m32,d32,v32,rfl,h32,g32,k32,bw⟩
 replace HB:=bt_ HB bw
 replace R0:=bl_ R0 bw
 have F32:=hd_ h32
 have G32:=hd_ g32
 have K32:=hd_ k32
 obtain⟨r0,r1'⟩:=a0_ R0.out
 have e0:=ad_ R0.out 0
 have e1:=ad_ R0.out 1
 clear h32 g32 k32 bw UP DN
 have R9:=hd_ (a4_ R0.out (.slice a32 n32 c32) (.slice b32 m32 d32))
 have P9:=hd_ (F32.out.boxed R0.out (.slice a32 n32 c32) (.slice b32 m32 d32))
 have Q9:=hd_ (G32.out.boxed R0.out (.slice a32 n32 c32) (.slice b32 m32 d32))
 have G9:=hd_ (an_ HB.out (show w.heap.size≤w.heap.size+1+1 by omega) (.slice a32 n32 c32) (.slice b32 m32 d32))
 go_wp2
 refine bodyPost_ret (results_cell_row Tryz.results36 _ _ (w.heap.size+1+1) 24 #[.slice a32 n32 c32,.slice b32 m32 d32] (0,0) _ rfl R9.out Tryz.underlying24 rfl (by kernel_rfl)) rfl ?_
 exact⟨a32,n32,c32,u32,b32,m32,d32,v32,rfl,P9.out,Q9.out,K32.out,G9.out⟩
theorem o6_(p q:Rat):(zneg p.num=zneg q.num∧dg p.num.natAbs=dg q.num.natAbs∧dg p.den=dg q.den)↔p=q:=by
 constructor
 ·rintro ⟨h1,h2,h3⟩
  have e2:p.num.natAbs=q.num.natAbs:=by have:=congrArg val h2;rwa [a1_,a1_] at this
  have e3:p.den=q.den:=by have:=congrArg val h3;rwa [a1_,a1_] at this
  have e1:p.num=q.num:=by
   have a1:=hk_ p.num
   have a2:=hk_ q.num
   rw[←a1,←a2,h1,e2]
  exact Rat.ext e1 e3
 ·rintro rfl;exact⟨rfl,rfl,rfl⟩
theorem og_(v u:Value)(p q:Rat)(w:World)(h:Rt w v p 15728640000)(k:Rt w u q 15728640000):Calls Tryz.prog 72 #[v,u] w (bi_ (.bool (decide (p=q))) w):=by
 obtain⟨a,n,cap,b,m,cap',rfl,ha,hb,hn,hm⟩:=h
 obtain⟨a',n',c',b',m',d',rfl,ha',hb',hn',hm'⟩:=k
 have e:=v5_ (zneg p.num) a n cap _ b m cap' _ (zneg q.num) a' n' c' _ b' m' d' _ w ha hb ha' hb'
 rwa [decide_eq_decide.2 (o6_ p q)] at e
theorem ve_(a0:OA_)(n0 c0:Nat)(qs0:LR_)(a1:OA_)(n1 c1:Nat)(qs1:LR_)(w:World)(h0:Rw w a0 n0 c0 qs0)(h1:Rw w a1 n1 c1 qs1)(hn:n0≤1000)(ht0:∀q∈qs0,qlen q≤15728640000)(ht1:∀q∈qs1,qlen q≤15728640000) :
 Calls Tryz.prog 76 #[.slice a0 n0 c0,.slice a1 n1 c1] w (bi_ (.bool (decide (qs0=qs1))) w):=by
 have HK0:=hd_ h0
 have HK1:=hd_ h1
 have HLl0:=hd_ h0.len
 have HLl1:=hd_ h1.len
 have hbd0:=h0.bound
 have hbd1:=h1.bound
 have HTh0:=hd_ ht0
 have HTh1:=hd_ ht1
 clear h0 h1 ht0 ht1
 obtain⟨r,hr⟩:∃r,decide (qs0=qs1)=r:=⟨_,rfl⟩
 have HR:=hd_ hr
 rw[hr]
 clear hr
 go_enter Tryz.func76,Tryz.ntmps76
 by_cases hnm:n0=n1
 ·subst hnm
  go_wp2
  go_loopw [5] (fun iv wr=>∃k:Nat,k≤n0∧iv=.int .i64 (k:Int)∧Hid (qs0.take k=qs1.take k)∧Hid (Below w.heap.size w wr)) (fun iv _=>n0 - (intOf iv).toNat)
  case atStart=>exact⟨0,by omega,rfl,hd_ rfl,hd_ (Below.refl _ _)⟩
  case round=>
   obtain⟨k,hk,rfl,HO,HB⟩:=hrel
   by_cases hlt:k < n0
   ·have HT0:Hid (qs0.take (k+1)=qs0.take k ++ [qs0.getD k 0]):=hd_ (gk_ (by rw[HLl0.out];exact hlt))
    have HT1:Hid (qs1.take (k+1)=qs1.take k ++ [qs1.getD k 0]):=hd_ (gk_ (by rw[HLl1.out];exact hlt))
    obtain⟨bb0,off0,rfl,ak0,nk0,ck0,bk0,mk0,dk0,he0,hA0,hB0⟩:=HK0.out.at hlt
    have hth0:nk0≤15728640000:=by rw[←hA0.len];exact Nat.le_trans (a8_ _) (HTh0.out _ (f4_ (by rw[HLl0.out];exact hlt)))
    have htj0:mk0≤15728640000:=by rw[←hB0.len];exact Nat.le_trans (a7_ _) (HTh0.out _ (f4_ (by rw[HLl0.out];exact hlt)))
    have HE0:=hd_ he0
    have AK0:=hd_ hA0
    have BK0:=hd_ hB0
    clear he0 hA0 hB0
    obtain⟨bb1,off1,rfl,ak1,nk1,ck1,bk1,mk1,dk1,he1,hA1,hB1⟩:=HK1.out.at hlt
    have hth1:nk1≤15728640000:=by rw[←hA1.len];exact Nat.le_trans (a8_ _) (HTh1.out _ (f4_ (by rw[HLl1.out];exact hlt)))
    have htj1:mk1≤15728640000:=by rw[←hB1.len];exact Nat.le_trans (a7_ _) (HTh1.out _ (f4_ (by rw[HLl1.out];exact hlt)))
    have HE1:=hd_ he1
    have AK1:=hd_ hA1
    have BK1:=hd_ hB1
    clear he1 hA1 hB1
    generalize qs0.getD k 0=qk0 at *
    generalize qs1.getD k 0=qk1 at *
    have hki:(k:Int) < (n0:Int):=by omega
    obtain⟨e00,e10,e20⟩:=aq_ HE0.out HB.out
    obtain⟨e01,e11,e21⟩:=aq_ HE1.out HB.out
    go_wp2
    go_still_tail 8,(by kernel_rfl)
    change wpList _ _ _ _ _ wr.drew
    have b0:Below wr.heap.size wr wr.drew:=(Below.refl _ _).drew
    replace HB:=bt_ HB b0
    clear e00 e10 e20 e01 e11 e21 b0
    generalize wr.drew=wr at *
    have HC:∀u v,u=frV (zneg qk0.num) ak0 nk0 ck0 bk0 mk0 dk0→v=frV (zneg qk1.num) ak1 nk1 ck1 bk1 mk1 dk1→Calls Tryz.prog 72 #[u,v] wr (bi_ (.bool (decide (qk0=qk1))) wr):=by
     rintro _ _ rfl rfl
     exact og_ _ _ qk0 qk1 _ (Rt.of (AK0.out.later HB.out) (BK0.out.later HB.out) (by omega) (by omega)) (Rt.of (AK1.out.later HB.out) (BK1.out.later HB.out) (by omega) (by omega))
    go_wp2_with fail
    refine (HC _ _ rfl rfl).mono ?_
    rintro e w4 ⟨rfl,b4⟩
    replace HB:=bt_ HB b4
    clear b4 HC
    by_cases hq:qk0=qk1
    ·have HO5:Hid (qs0.take (k+1)=qs1.take (k+1)):=hd_ (by rw[HT0.out,HT1.out,HO.out,hq])
     rw[decide_eq_true hq]
     clear hq HT0 HT1 HO
     go_wp2
     go_roundw
     case rel=>exact⟨k+1,by omega,by go_num,HO5,HB⟩
     case measure=>simp[intOf];omega
    ·have hne:¬qs0=qs1:=fun e=>by
      subst e
      have h8:=HT0.out.symm.trans HT1.out
      have h9:=List.append_cancel_left h8
      exact hq (by simpa using h9)
     obtain rfl:false=r:=(decide_eq_false hne).symm.trans HR.out
     rw[decide_eq_false hq]
     clear hq hne HT0 HT1 HO
     go_wp2
     go_ret
     exact⟨rfl,HB.out⟩
   ·obtain rfl:k=n0:=by omega
    have he:qs0=qs1:=by
     have h8:=HO.out
     rwa [List.take_of_length_le (by rw[HLl0.out];exact Nat.le_refl _),List.take_of_length_le (by rw[HLl1.out];exact Nat.le_refl _)] at h8
    obtain rfl:true=r:=(decide_eq_true he).symm.trans HR.out
    clear he
    go_wp2
    go_ret
    exact⟨rfl,HB.out⟩
 ·have hne:¬qs0=qs1:=fun e=>hnm (by rw[←HLl0.out,←HLl1.out,e])
  have hnmi:((n0:Int) != (n1:Int))=true:=by simp;omega
  obtain rfl:false=r:=(decide_eq_false hne).symm.trans HR.out
  clear hne
  go_wp2
  go_ret
  exact⟨rfl,Below.refl _ _⟩
theorem jy_(a:OA_)(n c:Nat)(b:OA_)(m d:Nat)(r:Bool)(w:World)(hr:((n:Int) == 0)=r):Calls Tryz.prog 21 #[.agg #[.slice a n c,.slice b m d]] w (bi_ (.bool r) w):=by
 have HB:=hd_ (aa_ w (.cells #[.slice a n c,.slice b m d] 24))
 have X0:=hd_ (ai_ w #[.slice a n c,.slice b m d] 24)
 obtain⟨x0,x1⟩:=a0_ X0.out
 go_enter Tryz.func21,Tryz.ntmps21
 go_wp2
 go_ret
 exact⟨rfl,HB.out⟩
theorem dn_(a:OA_)(n c:Nat)(L:List Fx)(b:OA_)(m d:Nat)(M:List Fx)(K N:Int)(r:Bool)(w:World)(h:Fxs w a n c L)(k:Fxs w b m d M)(hK:0≤K∧K≤1000)(hr:r=true↔¬(((n:Int)≤K∧thinI N L)∧((m:Int)≤K∧thinI N M))) :
 Calls Tryz.prog 7 #[.agg #[.slice a n c,.slice b m d],.int .i64 K,.int .i64 N] w (bi_ (.bool r) w):=by
 have HB:=hd_ (aa_ w (.cells #[.slice a n c,.slice b m d] 24))
 have X0:=hd_ (ai_ w #[.slice a n c,.slice b m d] 24)
 have A1:=hd_ (h.later HB.out)
 have B1:=hd_ (k.later HB.out)
 obtain⟨x0,x1⟩:=a0_ X0.out
 clear h k
 by_cases hu:(n:Int)≤K∧thinI N L
 ·have H1:=fun w' h8=>jz_ a n c L K N false w' h8 hK (hd_ ⟨fun h9=>absurd h9 (by decide),fun h9=>absurd hu h9⟩)
  have hr2:r=true↔¬((m:Int)≤K∧thinI N M):=hr.trans ⟨fun h1 h2=>h1 ⟨hu,h2⟩,fun h1 h2=>h1 h2.2⟩
  have H2:=fun w' h8=>jz_ b m d M K N r w' h8 hK (hd_ hr2)
  clear hr hr2 hu
  go_enter Tryz.func7,Tryz.ntmps7
  go_wp2_with fail
  refine (H1 _ A1.out).mono ?_
  rintro e w1 ⟨rfl,bw⟩
  clear x0 x1 H1 A1
  replace HB:=bt_ HB bw
  replace X0:=bl_ X0 bw
  replace B1:=B1.l_ bw
  clear bw
  obtain⟨x0,x1⟩:=a0_ X0.out
  go_wp2_with fail
  refine (H2 _ B1.out).mono ?_
  rintro e w2 ⟨rfl,bw⟩
  replace HB:=bt_ HB bw
  clear bw x0 x1 X0 H2 B1
  go_wp2
  go_ret
  exact⟨rfl,HB.out⟩
 ·have H1:=fun w' h8=>jz_ a n c L K N true w' h8 hK (hd_ ⟨fun _=>hu,fun _=>rfl⟩)
  have hr2:r=true:=hr.2 (fun h1=>hu h1.1)
  subst hr2
  clear hr hu
  go_enter Tryz.func7,Tryz.ntmps7
  go_wp2_with fail
  refine (H1 _ A1.out).mono ?_
  rintro e w1 ⟨rfl,bw⟩
  clear x0 x1 H1 A1 B1 X0
  replace HB:=bt_ HB bw
  clear bw
  go_wp2
  go_ret
  exact⟨rfl,HB.out⟩
end Go.Proofs.YtocebjbjnfammaaGreat
