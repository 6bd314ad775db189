import Derived.Test.YtocebjbjnfammaaGreatTG1
import Derived.Test.YtocebjbjnfammaaGreatTG3
import Derived.Test.YtocebjbjnfammaaGreatTG9
import Derived.BigRegion
import Derived.BigQuiet
import Derived.Deep.QuietTactic
import Derived.Deep.DeepMust
import Derived.Test.YtocebjbjnfammaaGreatTG5
import Derived.Deep.RegionHeld3
import Derived.Lib.AppendIntMem
import Derived.Lib.AppendStr
import Derived.Laws.IdiomStrings
import Derived.Laws.Slices
import Derived.OwnWalk
import Derived.BigCall
import Derived.BigGuard
import Derived.Test.YtocebjbjnfammaaGreatTG4
import Derived.Laws.CopyOwn
set_option maxRecDepth 4096
set_option maxHeartbeats 16000000
namespace Go.Proofs.YtocebjbjnfammaaGreat
open Go.RowKit
theorem jj_(x y c d:Nat)(w:World)(hx:x < 4294967296)(hy:y < 4294967296)(hc:c < 4294967296)(hd:d < 4294967296):Calls Tryz.prog 134 #[.int .u32 (x:Int),.int .u32 (y:Int),.int .u32 (c:Int),.int .u32 (d:Int)] w fun e w'=>
 ∃z r:Nat,e=.returned (.tuple #[.int .u32 (z:Int),.int .u32 (r:Int)])∧z < 4294967296∧r < 4294967296∧Hid (r+4294967296 * z=x * y+(c+d))∧w=w':=
 (t1_ x y c d w (by omega) (by omega) (by omega) (by omega) (by omega) (by omega) (by omega) (by omega)).mono fun e w' ⟨he,hw⟩=>by
   have h1:x * y≤4294967295 * 4294967295:=Nat.mul_le_mul (by omega) (by omega)
   have e0:(x:Int) * (y:Int)=((x * y:Nat):Int):=by simp
   rw[e0] at he
   generalize x * y=p at *
   exact⟨(p+(c+d)) / 4294967296,(p+(c+d)) % 4294967296,by rw[he,show ((p:Int)+c+d) / 4294967296=(((p+(c+d)) / 4294967296:Nat):Int) by omega,show ((p:Int)+c+d) % 4294967296=(((p+(c+d)) % 4294967296:Nat):Int) by omega],by omega,by omega,hd_ (by omega),hw⟩
theorem p2_(x y c:Nat)(w:World)(hx:x < 4294967296)(hy:y < 4294967296)(hc:c < 4294967296):Calls Tryz.prog 134 #[.int .u32 (x:Int),.int .u32 (y:Int),.int .u32 (c:Int),.int .u32 0] w fun e w'=>
 ∃z r:Nat,e=.returned (.tuple #[.int .u32 (z:Int),.int .u32 (r:Int)])∧z < 4294967296∧r < 4294967296∧Hid (r+4294967296 * z=x * y+c)∧w=w':=
 jj_ x y c 0 w hx hy hc (by omega)
theorem pv_(a:OA_)(na cap:Nat)(la:List Nat)(b:OA_)(nb cap':Nat)(lb:List Nat)(w0:World)(ha:Wd w0 a na cap la)(hb:Wd w0 b nb cap' lb)(hna:na≤4194304000000)(hnb:nb≤4194304000000) :
 Calls Tryz.prog 90 #[.slice a na cap,.slice b nb cap'] w0 (Lst (dg (val la * val lb)) w0):=by
 obtain⟨i0,hi,hz0,hz1,hz2⟩:=info_parts g9_
 have Hb0:=hd_ hb
 have Hla:Hid ((dg (val la)).length≤na):=hd_ (by rw[←ha.len];exact df_ ha.ok)
 have Hlb:Hid ((dg (val lb)).length≤nb):=hd_ (by rw[←hb.len];exact df_ hb.ok)
 go_enter Tryz.func90,Tryz.ntmps90
 go_wp2_with fail
 refine (natSaid.norm _ _ _ _ _ ha (by omega)).mono ?_
 rintro e w1 ⟨a,n,c1,rfl,h1,b1⟩
 have H1:=hd_ h1
 clear ha hb h1
 go_wp2_with fail
 refine (natSaid.norm _ _ _ _ _ (Hb0.out.later b1) (by omega)).mono ?_
 rintro e w ⟨b,m,c2,rfl,h2,b2⟩
 have Ha:=H1.l_ b2
 have Hb:=hd_ h2
 have hn:n≤4194304000000:=by have h1:=H1.out.len;have h2:=Hla.out;omega
 have hm:m≤4194304000000:=by have h1:=Hb.out.len;have h2:=Hlb.out;omega
 have HB0:=hd_ (ab_ b1 b2)
 have Hv:Hid (val (dg (val la)) * val (dg (val lb))=val la * val lb):=hd_ (by rw[a3_,a3_])
 clear H1 Hb0 h2 b1 b2 Hla Hlb hna hnb
 generalize dg (val la)=A at *
 generalize dg (val lb)=B at *
 obtain⟨N,hN⟩:∃N:Nat,(n:Int)+(m:Int)=(N:Int):=⟨n+m,by omega⟩
 have HN:Hid (N=n+m):=hd_ (by omega)
 have hNb:N≤8388608000000:=by omega
 go_wp2_with (at_make;refine cc_ _ rfl _ _ 25 rfl w.heap.size 81 i0 (.int .u32 0) Tryz.underlying25 hi hz0 hz1 rfl .i64 .i64 _ _ N N rfl rfl rfl rfl (Nat.le_refl _) (by rw[hz2];omega) (by unfold maxLen;omega) (Nat.le_refl _) ?_;intro w1 hown1 hgrow1)
 rw[dy_] at hown1
 have HO1:Hid (Own w1 w.heap.size w.heap.size N N (List.replicate N 0)):=hd_ ⟨hown1,ff_ N⟩
 have hB1:Below w.heap.size w w1:=(Below.refl _ _).grown hgrow1 (Nat.le_refl _) (fun k hk=>by cases hk)
 clear hown1 hgrow1
 go_loopw [23] (fun iv wr=>∃(i:Nat) (P:List Nat),i≤n∧iv=.int .i64 (i:Int)∧Hid (v3_ A B P m i)∧Hid (Own wr w.heap.size w.heap.size N N P)∧Below w.heap.size w wr) (fun iv _=>n - (intOf iv).toNat)
 case atStart=>exact⟨0,List.replicate N 0,by omega,rfl,hd_ (qq_ _ _ _ _),HO1,hB1⟩
 case round=>
  clear HO1 hB1
  obtain⟨i,P,hin,rfl,HR,HO,hB⟩:=hrel
  by_cases hlt:i < n
  ·have hii:(i:Int) < (n:Int):=by omega
   obtain⟨ba,oa,rfl,hca⟩:=(Ha.out.later hB).at (by omega)
   have hcai:=hca i hlt
   have hxw:=bi_ Ha.out.ok i
   obtain⟨x,hxx⟩:∃x,x=atw A i:=⟨_,rfl⟩
   rw[←hxx] at hxw hcai
   have Hx:=hd_ hxx
   clear hca hxx
   go_wp2
   go_loopw [8,30] (fun sv jv wr=>∃(j c:Nat) (P:List Nat),j≤m∧jv=.int .i64 (j:Int)∧sv=.int .u32 (c:Int)∧c < 4294967296∧Hid (n8_ A B P m i j c)∧Hid (Own wr w.heap.size w.heap.size N N P)∧Below w.heap.size w wr) (fun _ jv _=>m - (intOf jv).toNat)
   case atStart=>exact⟨0,0,P,by omega,rfl,rfl,by omega,hd_ (oe_ HR.out),HO,hB⟩
   case round=>
    clear HO hB HR hcai
    obtain⟨j,c,P,hjm,rfl,rfl,hc,HC,HO,hB⟩:=hrel
    by_cases hjl:j < m
    ·have hji:(j:Int) < (m:Int):=by omega
     obtain⟨bb,ob,rfl,hcb⟩:=(Hb.out.later hB).at (by omega)
     have hcbj:=hcb j hjl
     have hyw:=bi_ Hb.out.ok j
     obtain⟨y,hyy⟩:∃y,y=atw B j:=⟨_,rfl⟩
     rw[←hyy] at hyw hcbj
     have Hy:=hd_ hyy
     obtain⟨q,hq⟩:∃q:Nat,(i:Int)+(j:Int)=(q:Int):=⟨i+j,by omega⟩
     have Hq:Hid (q=i+j):=hd_ (by omega)
     have hqN:q < N:=by have:=HN.out;omega
     have hqi:(q:Int) < (N:Int):=by omega
     have hcell:=HO.out.cell (k:=q) hqN
     have hfro:=HO.out.1.frozenAt q
     have huw:=bi_ HO.out.2 q
     obtain⟨u,huu⟩:∃u,u=atw P q:=⟨_,rfl⟩
     rw[←huu] at huw hcell
     have Hu:=hd_ huu
     have hb:=HO.out.base
     clear hcb hyy huu
     go_wp2_with fail
     refine (jj_ x y u c _ hxw hyw huw hc).mono ?_
     rintro e w' ⟨z,r,rfl,hz,hr,Hs,rfl⟩
     have HOs:=hd_ (HO.out.set q r hr)
     have HBs:=hd_ (hB.setCell (p:=⟨w.heap.size,q,none⟩) hb.1 (.int .u32 (r:Int)))
     go_wp2
     go_roundw
     case rel=>
      exact⟨j+1,z,P.set q r,by omega,by go_num,rfl,hz,hd_ (by
       have h1:=HC.out
       have h2:=HN.out
       have h3:=HO.out.len
       obtain rfl:=Hq.out
       exact qv_ h1 hjl (by omega) (by rw[←Hx.out,←Hy.out,←Hu.out];exact Hs.out)),HOs,HBs.out⟩
     case measure=>simp[intOf];omega
    ·obtain rfl:j=m:=by omega
     obtain⟨q,hq⟩:∃q:Nat,(i:Int)+(j:Int)=(q:Int):=⟨i+j,by omega⟩
     have Hq:Hid (q=i+j):=hd_ (by omega)
     have hqN:q < N:=by have:=HN.out;omega
     have hqi:(q:Int) < (N:Int):=by omega
     have hcell:=HO.out.cell (k:=q) hqN
     have hfro:=HO.out.1.frozenAt q
     generalize atw P q=u at hcell
     have hb:=HO.out.base
     have HOs:=hd_ (HO.out.set q c hc)
     have HBs:=hd_ (hB.setCell (p:=⟨w.heap.size,q,none⟩) hb.1 (.int .u32 (c:Int)))
     go_wp2
     go_roundw
     case rel=>
      exact⟨i+1,P.set q c,by omega,by go_num,hd_ (by
       have h1:=HC.out
       have h2:=HN.out
       have h3:=HO.out.len
       obtain rfl:=Hq.out
       exact uo_ h1 Hb.out.len (by omega)),HOs,HBs.out⟩
     case measure=>simp[intOf];omega
  ·obtain rfl:i=n:=by omega
   have Hw:Hid (val P=val la * val lb):=hd_ (by rw[←Hv.out];exact row_end HR.out Ha.out.len)
   go_wp2_with fail
   refine (natSaid.norm _ _ _ _ _ HO.out.wd (by omega)).mono ?_
   rintro e w' ⟨a',n',c',rfl,hwd,hbel⟩
   rw[Hw.out] at hwd
   have HWD:=hd_ hwd
   clear hwd
   go_wp2
   go_ret
   exact⟨_,_,_,rfl,HWD.out,ab_ HB0.out (ab_ hB hbel)⟩
theorem jd_{w:World}{A:Nat}{x y:Value}{t:TypeId}(h1:w.heap[A]? = some (.cells #[x,y] t (0,0))):w.cell? ⟨A,0,none⟩=some x∧w.cell? ⟨A,1,none⟩=some y:=⟨ad_ h1 0,ad_ h1 1⟩
theorem vh_{w:World}{A g:Nat}{x y:Value}{t:TypeId}(h1:w.heap[A]? = some (.cells #[x,y] t (0,0)))(hA:A≠g)(p q:Value) :
 ((w.setCell ⟨g,0,none⟩ p).setCell ⟨g,1,none⟩ q).cell? ⟨A,0,none⟩=some x∧((w.setCell ⟨g,0,none⟩ p).setCell ⟨g,1,none⟩ q).cell? ⟨A,1,none⟩=some y:=jd_ (cn_ (cn_ h1 hA 0 p) hA 1 q)
theorem ea_(neg:Bool)(a:OA_)(n cap v:Nat)(w:World)(h:Wd w a n cap (dg v))(hn:n≤17592183947264):Calls Tryz.prog 129 #[.bool neg,.slice a n cap] w (LstZ (zval neg v) w):=by
 have HA:Hid ((zval neg v).natAbs=v):=hd_ (d0_ _ _)
 have H:=hd_ h
 clear h
 cases neg with
 | false=>
   have HZ:Hid (zneg (zval false v)=false):=hd_ (by rw[h9_];rfl)
   have HG:=hd_ (ai_ w #[.bool false,.slice a n cap] 42)
   go_enter Tryz.func129,Tryz.ntmps129
   go_wp2
   refine bodyPost_ret (results_cell_row Tryz.results129 _ _ (w.heap.size) 42 #[.bool false,.slice a n cap] (0,0) _ rfl HG.out Tryz.underlying42 rfl (by kernel_rfl)) rfl ?_
   exact⟨a,n,cap,by rw[HZ.out];rfl,by rw[HA.out];exact H.out.later (aa_ _ _),aa_ _ _⟩
 | true=>
   go_enter Tryz.func129,Tryz.ntmps129
   go_wp2_with fail
   refine (natSaid.zero _ _ _ _ _ (H.out.later (aa_ _ _)) hn).mono ?_
   rintro e w1 ⟨rfl,b1⟩
   rw[a3_]
   have hR:=th_ w w1 _ _ b1
   have r0:=ad_ hR 0
   have r1:=ad_ hR 1
   have f0:=ae_ hR 0
   have f1:=ae_ hR 1
   simp only[List.getElem?_toArray,List.getElem?_cons_zero,List.getElem?_cons_succ] at r0 r1
   have HR:=hd_ hR
   have HB:=hd_ (ab_ (aa_ _ _) b1)
   have H1:=hd_ (H.out.later HB.out)
   clear hR b1
   by_cases hv:v=0
   ·have HZ:Hid (zneg (zval true v)=false):=hd_ (by rw[hv];rfl)
    rw[decide_eq_true hv]
    clear hv
    have HG:=hd_ (bj_ HR.out (.bool false) (.slice a n cap))
    have HS:=hd_ (H1.out.stored2 HR.out false (.slice a n cap))
    have HB2:=hd_ (ay_ HB.out (show w.heap.size≤w.heap.size from Nat.le_refl _) (.bool false) (.slice a n cap))
    go_wp2
    refine bodyPost_ret (results_cell_row Tryz.results129 _ _ (w.heap.size) 42 #[.bool false,.slice a n cap] (0,0) _ rfl HG.out Tryz.underlying42 rfl (by kernel_rfl)) rfl ?_
    exact⟨a,n,cap,by rw[HZ.out];rfl,by rw[HA.out];exact HS.out,HB2.out⟩
   ·have HZ:Hid (zneg (zval true v)=true):=hd_ (by rw[h9_,decide_eq_true hv];rfl)
    rw[decide_eq_false hv]
    clear hv
    have HG:=hd_ (bj_ HR.out (.bool true) (.slice a n cap))
    have HS:=hd_ (H1.out.stored2 HR.out true (.slice a n cap))
    have HB2:=hd_ (ay_ HB.out (show w.heap.size≤w.heap.size from Nat.le_refl _) (.bool true) (.slice a n cap))
    go_wp2
    refine bodyPost_ret (results_cell_row Tryz.results129 _ _ (w.heap.size) 42 #[.bool true,.slice a n cap] (0,0) _ rfl HG.out Tryz.underlying42 rfl (by kernel_rfl)) rfl ?_
    exact⟨a,n,cap,by rw[HZ.out];rfl,by rw[HA.out];exact HS.out,HB2.out⟩
theorem rh_(x:Int)(w:World):Calls Tryz.prog 149 #[.int .i64 x] w (fun e w'=>e=.returned (.bool false)∧w'=w):=by
 have hx:(x == x)=true:=by simp
 go_enter Tryz.func149,Tryz.ntmps149
 go_wp2
 go_ret
 exact⟨rfl,rfl⟩
theorem i4_(x y:Int)(w:World):Calls Tryz.prog 124 #[.int .i64 x,.int .i64 y] w (fun e w'=>e=.returned (.int .i64 (sgn (x - y)))∧w'=w):=by
 go_enter Tryz.func124,Tryz.ntmps124
 go_wp2_with fail
 refine (rh_ x _).mono ?_
 rintro e w' ⟨rfl,rfl⟩
 go_wp2_with fail
 refine (rh_ y _).mono ?_
 rintro e w' ⟨rfl,rfl⟩
 by_cases h1:x < y
 ·have HS:Hid (sgn (x - y) = -1):=hd_ (by unfold sgn;rw[if_neg (by omega),if_pos (by omega)])
  go_wp2
  go_ret
  exact⟨by rw[HS.out];rfl,rfl⟩
 ·by_cases h2:y < x
  ·have HS:Hid (sgn (x - y)=1):=hd_ (by unfold sgn;rw[if_neg (by omega),if_neg (by omega)])
   go_wp2
   go_ret
   exact⟨by rw[HS.out];rfl,rfl⟩
  ·have HS:Hid (sgn (x - y)=0):=hd_ (by unfold sgn;rw[if_pos (by omega)])
   go_wp2
   go_ret
   exact⟨by rw[HS.out];rfl,rfl⟩
theorem u9_(neg:Bool)(a:OA_)(n cap:Nat)(l:List Nat)(w:World)(h:Wd w a n cap l)(hn:n≤104857600000) :
 Calls Tryz.prog 151 #[whV neg a n cap] w (LstZ (zval neg (val l)) w):=by
 have hB2:Below w.heap.size w ((w.alloc (.cells #[.bool neg,.slice a n cap] 42)).alloc (.cells #[.bool false,.slice none 0 0] 42)):=ab_ (aa_ _ _) (aa_ _ _)
 have Ha:=h.l_ hB2
 have HB:=hd_ hB2
 have hAR:=c0_ w ((w.alloc (.cells #[.bool neg,.slice a n cap] 42)).alloc (.cells #[.bool false,.slice none 0 0] 42)) #[.bool neg,.slice a n cap] #[.bool false,.slice none 0 0] 42 42 (Below.refl _ _)
 have hpl:(dg (val l)).length≤104857600000:=Nat.le_trans h.trim_le hn
 clear h hB2
 go_enter Tryz.func151,Tryz.ntmps151
 unfold whV
 go_wp2
 generalize ((w.alloc (.cells #[.bool neg,.slice a n cap] 42)).alloc (.cells #[.bool false,.slice none 0 0] 42))=W at *
 have HAd:Hid (W.drew.heap[w.heap.size]? = some (.cells #[.bool neg,.slice a n cap] 42 (0,0))):=hd_ hAR.1
 have HRd:Hid (W.drew.heap[w.heap.size+1]? = some (.cells #[.bool false,.slice none 0 0] 42 (0,0))):=hd_ hAR.2
 have Hd:Below W.heap.size W W.drew:=(Below.refl _ _).drew
 have Sd:=jd_ HAd.out
 clear hAR
 go_region_held3 (fun w'=>w'.cell? ⟨w.heap.size,0,none⟩=some (.bool neg)∧w'.cell? ⟨w.heap.size,1,none⟩=some (.slice a n cap)) (first | exact Sd | exact Sq1 | exact Sq2 | exact Sq3 _ _)
  (first
  | (go_at_call 133;(refine (natSaid.norm a n cap l _ (Ha.out.later Hd) ?q3).mono ?_);(case q3=>omega);rintro e w1 ⟨a1,n1,c1,rfl,h1,b1⟩;have hA1:=ac_ HAd.out b1;have Sq1:=jd_ hA1)
  | (go_at_call 129;(refine (ea_ neg a1 n1 c1 _ _ h1 ?q5).mono ?_);(case q5=>have:=h1.len;omega);rintro e w2 ⟨a2,n2,c2,rfl,h2,b2⟩;have Sq2:=jd_ (ac_ hA1 b2);have Sq3:=vh_ (g:=w.heap.size+1) (ac_ hA1 b2) (by omega);have hRb:=ac_ (ac_ HRd.out b1) b2;have r0:=ad_ hRb 0;have r1:=ad_ hRb 1;have f0:=ae_ hRb 0;have f1:=ae_ hRb 1;simp only[List.getElem?_toArray,List.getElem?_cons_zero,List.getElem?_cons_succ] at r0 r1;unfold whV))
 have hBe:=hd_ (ab_ HB.out (ab_ Hd (ab_ b1 b2)))
 have H2:=hd_ h2
 have hl2:=hd_ hRb
 have HF:=hd_ (H2.out.stored2 hl2.out (zneg (zval neg (val l))) (.slice a2 n2 c2))
 have HG:=hd_ (bj_ hl2.out (.bool (zneg (zval neg (val l)))) (.slice a2 n2 c2))
 have HB2:=hd_ (ay_ hBe.out (show w.heap.size≤w.heap.size+1 by omega) (.bool (zneg (zval neg (val l)))) (.slice a2 n2 c2))
 generalize zval neg (val l)=z at *
 go_wp2
 refine bodyPost_ret (results_cell_row Tryz.results151 _ _ (w.heap.size+1) 42 #[.bool (zneg z),.slice a2 n2 c2] (0,0) _ rfl HG.out Tryz.underlying42 rfl (by kernel_rfl)) rfl ?_
 exact⟨a2,n2,c2,rfl,HF.out,HB2.out⟩
theorem ka_(neg:Bool)(a:OA_)(n cap:Nat)(l:List Nat)(w:World)(h:Wd w a n cap l)(hn:n≤104857600000) :
 Calls Tryz.prog 94 #[whV neg a n cap] w (bf_ (.int .i64 (sgn (zval neg (val l)))) w):=by
 have H:=hd_ h
 clear h
 go_enter Tryz.func94,Tryz.ntmps94
 unfold whV
 go_wp2_with fail
 refine (natSaid.zero _ _ _ _ _ (H.out.later (aa_ _ _)) (by omega)).mono ?_
 rintro e w1 ⟨rfl,b1⟩
 have hA:=th_ w w1 _ _ b1
 have r0:=ad_ hA 0
 have r1:=ad_ hA 1
 simp only[List.getElem?_toArray,List.getElem?_cons_zero,List.getElem?_cons_succ] at r0 r1
 have HB:=hd_ (ab_ (aa_ _ _) b1)
 clear hA b1 H
 generalize val l=v at *
 by_cases hv:v=0
 ·have HS:Hid (sgn (zval neg v)=0):=hd_ (by rw[hv];cases neg <;> rfl)
  rw[decide_eq_true hv]
  clear hv
  go_wp2
  go_ret
  exact⟨by rw[HS.out];rfl,HB.out⟩
 ·rw[decide_eq_false hv]
  cases neg with
  | true=>
    have HS:Hid (sgn (zval true v) = -1):=hd_ (by rw[qm_];exact sgn_neg (by omega))
    clear hv
    go_wp2
    go_ret
    exact⟨by rw[HS.out];rfl,HB.out⟩
  | false=>
    have HS:Hid (sgn (zval false v)=1):=hd_ (by rw[kl_];unfold sgn;rw[if_neg (by omega),if_neg (by omega)])
    clear hv
    go_wp2
    go_ret
    exact⟨by rw[HS.out];rfl,HB.out⟩
theorem qi_(na:Bool)(a:OA_)(n cap:Nat)(la:List Nat)(nb:Bool)(b:OA_)(m cap':Nat)(lb:List Nat)(w:World)(ha:Wd w a n cap la)(hb:Wd w b m cap' lb)(hn:n≤104857600000)(hm:m≤104857600000) :
 Calls Tryz.prog 132 #[whV na a n cap,whV nb b m cap'] w (LstZ (zval na (val la) * zval nb (val lb)) w):=by
 have hB3:Below w.heap.size w (((w.alloc (.cells #[.bool na,.slice a n cap] 42)).alloc (.cells #[.bool nb,.slice b m cap'] 42)).alloc (.cells #[.bool false,.slice none 0 0] 42)):=ab_ (ab_ (aa_ _ _) (aa_ _ _)) (aa_ _ _)
 have Ha:=ha.l_ hB3
 have Hb:=hb.l_ hB3
 have HB:=hd_ hB3
 have h3b:=jh_ w #[.bool na,.slice a n cap] #[.bool nb,.slice b m cap'] #[.bool false,.slice none 0 0] 42 42 42
 have HAo:=hd_ h3b.1
 have HBo:=hd_ h3b.2.1
 have HRo:=hd_ h3b.2.2
 have HV:=hd_ (tg_ na nb (val la) (val lb))
 have hpl:Hid ((dg (val la * val lb)).length≤209715200000):=hd_ (by
  have h1:=bp_ (val la) (val lb)
  have h2:=ha.trim_le
  have h3:=hb.trim_le
  omega)
 clear ha hb hB3 h3b
 go_enter Tryz.func132,Tryz.ntmps132
 unfold whV
 go_wp2
 generalize (((w.alloc (.cells #[.bool na,.slice a n cap] 42)).alloc (.cells #[.bool nb,.slice b m cap'] 42)).alloc (.cells #[.bool false,.slice none 0 0] 42))=W at *
 have HAd:Hid (W.drew.heap[w.heap.size]? = some (.cells #[.bool na,.slice a n cap] 42 (0,0))):=hd_ HAo.out
 have HBd:Hid (W.drew.heap[w.heap.size+1]? = some (.cells #[.bool nb,.slice b m cap'] 42 (0,0))):=hd_ HBo.out
 have HRd:Hid (W.drew.heap[w.heap.size+1+1]? = some (.cells #[.bool false,.slice none 0 0] 42 (0,0))):=hd_ HRo.out
 have Hd:Below W.heap.size W W.drew:=(Below.refl _ _).drew
 have Sd:=bz_ HAd.out HBd.out
 clear HAo HBo HRo
 go_region_held3 (fun w'=>w'.cell? ⟨w.heap.size,0,none⟩=some (.bool na)∧w'.cell? ⟨w.heap.size,1,none⟩=some (.slice a n cap)∧w'.cell? ⟨w.heap.size+1,0,none⟩=some (.bool nb)∧w'.cell? ⟨w.heap.size+1,1,none⟩=some (.slice b m cap')) (first | exact Sd | exact Sq0 | exact Sq1 | exact Sq2 | exact Sq3 _ _)
  (first
  | (go_at_call 90;(refine (pv_ a n cap la b m cap' lb _ (Ha.out.later Hd) (Hb.out.later Hd) ?q3 ?q4).mono ?_);(case q3=>omega);(case q4=>omega);rintro e w1 ⟨a1,n1,c1,rfl,h1,bq1⟩;have hA1:=ac_ HAd.out bq1;have hB1:=ac_ HBd.out bq1;have Sq1:=bz_ hA1 hB1)
  | (go_at_call 129;(refine (ea_ _ a1 n1 c1 _ _ h1 ?q5).mono ?_);(case q5=>have h7:=h1.len;have h8:=hpl.out;omega);rintro e w2 ⟨a2,n2,c2,rfl,h2,b2⟩;have Sq2:=bz_ (ac_ hA1 b2) (ac_ hB1 b2);have Sq3:=f0_ (g:=w.heap.size+1+1) (ac_ hA1 b2) (ac_ hB1 b2) (by omega) (by omega);have hRb:=ac_ (ac_ HRd.out bq1) b2;have r0:=ad_ hRb 0;have r1:=ad_ hRb 1;have f0:=ae_ hRb 0;have f1:=ae_ hRb 1;simp only[List.getElem?_toArray,List.getElem?_cons_zero,List.getElem?_cons_succ] at r0 r1;unfold whV))
 have hBe:=hd_ (ab_ HB.out (ab_ Hd (ab_ bq1 b2)))
 have H2:=hd_ h2
 have hl2:=hd_ hRb
 have HF:=hd_ (H2.out.stored2 hl2.out (zneg (zval (!(na == nb)) (val la * val lb))) (.slice a2 n2 c2))
 have HG:=hd_ (bj_ hl2.out (.bool (zneg (zval (!(na == nb)) (val la * val lb)))) (.slice a2 n2 c2))
 have HB2:=hd_ (ay_ hBe.out (show w.heap.size≤w.heap.size+1+1 by omega) (.bool (zneg (zval (!(na == nb)) (val la * val lb)))) (.slice a2 n2 c2))
 rw[HV.out] at HF HG HB2
 rw[HV.out]
 generalize zval na (val la) * zval nb (val lb)=z at *
 go_wp2
 refine bodyPost_ret (results_cell_row Tryz.results132 _ _ (w.heap.size+1+1) 42 #[.bool (zneg z),.slice a2 n2 c2] (0,0) _ rfl HG.out Tryz.underlying42 rfl (by kernel_rfl)) rfl ?_
 exact⟨a2,n2,c2,rfl,HF.out,HB2.out⟩
theorem sgn_vals{na nb:Bool}{u v:Nat}(h:sgn (zval na u)=sgn (zval nb v)):sgn (zval na u) * cmpI u v=sgn (zval na u - zval nb v):=by
 unfold sgn zval cmpI at *
 cases na <;> cases nb <;> simp at h ⊢ <;> (repeat' split at h) <;> (repeat' split) <;> omega
theorem sgn_diff{x y:Int}(h:sgn x≠sgn y):sgn (sgn x - sgn y)=sgn (x - y):=by
 unfold sgn at *
 (repeat' split at h) <;> (repeat' split) <;> omega
theorem whole_cmp(na:Bool)(a:OA_)(n cap:Nat)(la:List Nat)(nb:Bool)(b:OA_)(m cap':Nat)(lb:List Nat)(w:World)(ha:Wd w a n cap la)(hb:Wd w b m cap' lb)(hn:n≤104857600000)(hm:m≤104857600000) :
 Calls Tryz.prog 125 #[whV na a n cap,whV nb b m cap'] w (bf_ (.int .i64 (sgn (zval na (val la) - zval nb (val lb)))) w):=by
 have hB3:Below w.heap.size w ((w.alloc (.cells #[.bool na,.slice a n cap] 42)).alloc (.cells #[.bool nb,.slice b m cap'] 42)):=ab_ (aa_ _ _) (aa_ _ _)
 have Ha:=ha.l_ hB3
 have Hb:=hb.l_ hB3
 have HB:=hd_ hB3
 have h3b:=c0_ w ((w.alloc (.cells #[.bool na,.slice a n cap] 42)).alloc (.cells #[.bool nb,.slice b m cap'] 42)) #[.bool na,.slice a n cap] #[.bool nb,.slice b m cap'] 42 42 (Below.refl _ _)
 have HAo:=hd_ h3b.1
 have HBo:=hd_ h3b.2
 have HE:Hid (sgn (zval na (val la))=sgn (zval nb (val lb))→sgn (zval na (val la)) * cmpI (val la) (val lb)=sgn (zval na (val la) - zval nb (val lb))):=hd_ sgn_vals
 have HN:Hid (sgn (zval na (val la))≠sgn (zval nb (val lb))→sgn (sgn (zval na (val la)) - sgn (zval nb (val lb)))=sgn (zval na (val la) - zval nb (val lb))):=hd_ sgn_diff
 have hra:=j1_ (zval na (val la))
 have hrb:=j1_ (zval nb (val lb))
 clear ha hb hB3 h3b
 go_enter Tryz.func125,Tryz.ntmps125
 unfold whV
 go_wp2
 generalize ((w.alloc (.cells #[.bool na,.slice a n cap] 42)).alloc (.cells #[.bool nb,.slice b m cap'] 42))=W at *
 have HAd:Hid (W.drew.heap[w.heap.size]? = some (.cells #[.bool na,.slice a n cap] 42 (0,0))):=hd_ HAo.out
 have HBd:Hid (W.drew.heap[w.heap.size+1]? = some (.cells #[.bool nb,.slice b m cap'] 42 (0,0))):=hd_ HBo.out
 have Hd:Below W.heap.size W W.drew:=(Below.refl _ _).drew
 have Sd:=bz_ HAd.out HBd.out
 clear HAo HBo
 go_region_held3 (fun w'=>w'.cell? ⟨w.heap.size,0,none⟩=some (.bool na)∧w'.cell? ⟨w.heap.size,1,none⟩=some (.slice a n cap)∧w'.cell? ⟨w.heap.size+1,0,none⟩=some (.bool nb)∧w'.cell? ⟨w.heap.size+1,1,none⟩=some (.slice b m cap')) (first | exact Sd | exact Sq1 | exact Sq2)
  (first
  | (go_at_call 94;(first
  | (have qm:=M1;(refine (ka_ nb b m cap' lb _ (Hb.out.later (ab_ Hd b1)) ?q3).mono ?_);(case q3=>omega);rintro e w2 ⟨rfl,b2⟩;have Sq2:=bz_ (ac_ hA1 b2) (ac_ hB1 b2))
  | ((refine (ka_ na a n cap la _ (Ha.out.later Hd) ?q4).mono ?_);(case q4=>omega);rintro e w1 ⟨rfl,b1⟩;have M1:=True.intro;have hA1:=ac_ HAd.out b1;have hB1:=ac_ HBd.out b1;have Sq1:=bz_ hA1 hB1))))
 have HBe:=hd_ (ab_ HB.out (ab_ Hd (ab_ b1 b2)))
 have Ha2:=hd_ (Ha.out.later (ab_ Hd (ab_ b1 b2)))
 have Hb2:=hd_ (Hb.out.later (ab_ Hd (ab_ b1 b2)))
 clear Hd b1 b2 HAd HBd Sd hA1 hB1 Sq1 M1 Ha Hb HB
 generalize hx:sgn (zval na (val la))=x at *
 generalize hy:sgn (zval nb (val lb))=y at *
 clear hx hy
 by_cases hxy:x=y
 ·have hq:(x == y)=true:=by simp[hxy]
  have HE2:=hd_ (HE.out hxy)
  have hc : -1≤cmpI (val la) (val lb)∧cmpI (val la) (val lb)≤1:=by unfold cmpI;split <;> (try split) <;> omega
  clear HE HN hxy
  obtain⟨s0,s1,s2,s3⟩:=Sq2
  go_wp2_with fail
  refine (natSaid.cmp _ _ _ _ _ _ _ _ _ Ha2.out Hb2.out (by omega) (by omega)).mono ?_
  rintro e w3 ⟨rfl,b3⟩
  generalize cmpI (val la) (val lb)=c at *
  have hm1 : -1≤x * c∧x * c≤1:=by
   rcases (show x = -1∨x=0∨x=1 by omega) with rfl | rfl | rfl <;> omega
  go_wp2
  go_ret
  exact⟨by rw[←HE2.out];rfl,ab_ HBe.out b3⟩
 ·have hq:(x == y)=false:=by simp[hxy]
  have HN2:=hd_ (HN.out hxy)
  clear HE HN hxy
  go_wp2_with fail
  refine (i4_ x y _).mono ?_
  rintro e w' ⟨rfl,rfl⟩
  go_wp2
  go_ret
  exact⟨by rw[←HN2.out];rfl,HBe.out⟩




theorem v6_(n:Nat)(w:World)(hn:n≤1048576000000000000):Calls Tryz.prog 182 #[.int .i64 (n:Int)] w fun e w'=>e=.returned (.int .i64 (((n+31) / 32:Nat):Int))∧w=w':=by
 go_enter Tryz.func182,Tryz.ntmps182
 go_wp2
 go_ret
 exact⟨d7_ (by omega),rfl⟩
def TwTrim (a:OA_) (cap n:Nat) (l:List Nat) (w:World) (e:Ending) (w':World):Prop:=
 ∃m:Nat,e=.returned (.slice a m cap)∧Hid (m=(dg (val l)).length)∧m≤n∧Hid (Wd w a m cap (dg (val l)))∧w=w'
theorem qr_(a:OA_)(n cap:Nat)(l:List Nat)(w:World)(h:Wd w a n cap l)(hn:n≤17592183947264) :
 Calls Tryz.prog 178 #[.slice a n cap] w (TwTrim a cap n l w):=by
 obtain⟨hb1,hb2⟩:=h.bound
 have H:=hd_ h
 have hle:blen (val l)≤32 * n:=blen_le.2 (by rw[←i6_,←h.len];exact ee_ h.ok)
 have Hm:Hid ((blen (val l)+31) / 32=(dg (val l)).length):=hd_ (lu_ _).symm
 clear h
 go_enter Tryz.func178,Tryz.ntmps178
 go_wp2_with fail
 refine (twos_len _ _ _ _ _ H.out hn).mono ?_
 rintro e w' ⟨rfl,rfl⟩
 generalize blen (val l)=y at *
 go_wp2_with fail
 refine (v6_ y _ (by omega)).mono ?_
 rintro e w' ⟨rfl,rfl⟩
 have hm:(y+31) / 32≤n:=by omega
 generalize (y+31) / 32=m at *
 cases a with
 | none=>
   obtain⟨rfl,rfl,rfl⟩:=H.out.ofNone
   go_wp2
   go_ret
   exact⟨m,by simp;omega,Hm,hm,hd_ (by have:=H.out.trim;rwa [←Hm.out] at this),rfl⟩
 | some ad=>
   go_wp2
   go_ret
   exact⟨m,rfl,Hm,hm,hd_ (by have:=H.out.trim;rwa [←Hm.out] at this),rfl⟩
theorem h8_(x y c:Nat)(w:World)(hx:x < 4294967296)(hy:y < 4294967296)(hc:c < 4294967296):Calls Tryz.prog 134 #[.int .u32 (x:Int),.int .u32 (y:Int),.int .u32 (c:Int),.int .u32 0] w fun e w'=>
 ∃z r:Nat,e=.returned (.tuple #[.int .u32 (z:Int),.int .u32 (r:Int)])∧z < 4294967296∧r < 4294967296∧Hid (r+4294967296 * z=x * y+c)∧w=w':=
 (t1_ x y c 0 w (by omega) (by omega) (by omega) (by omega) (by omega) (by omega) (by omega) (by omega)).mono fun e w' ⟨he,hw⟩=>by
   have h1:x * y≤4294967295 * 4294967295:=Nat.mul_le_mul (by omega) (by omega)
   have e0:(x:Int) * (y:Int)=((x * y:Nat):Int):=by simp
   rw[e0] at he
   generalize x * y=p at *
   exact⟨(p+c) / 4294967296,(p+c) % 4294967296,by rw[he,show ((p:Int)+c+0) / 4294967296=(((p+c) / 4294967296:Nat):Int) by omega,show ((p:Int)+c+0) % 4294967296=(((p+c) % 4294967296:Nat):Int) by omega],by omega,by omega,hd_ (by omega),hw⟩
def LstOwn (v:Nat) (w:World) (e:Ending) (w':World):Prop:=
 ∃(a:OA_) (n cap:Nat),e=.returned (.slice a n cap)∧Wd w' a n cap (dg v)∧Below w.heap.size w w'∧(v≠0→∃g,a=some ⟨g,0,none⟩∧Hid (Own w' w.heap.size g n cap (dg v)))
theorem LstOwn.lst{v:Nat}{w:World}{e:Ending}{w':World}(h:LstOwn v w e w'):Lst (dg v) w e w':=by
 obtain⟨a,n,cap,h1,h2,h3,_⟩:=h
 exact⟨a,n,cap,h1,h2,h3⟩
theorem mb_(a:OA_)(n cap:Nat)(l:List Nat)(k:Int)(w:World)(h:Wd w a n cap l)(hn:n≤1048576000000) :
 Calls Tryz.prog 175 #[.slice a n cap,.int .i64 k] w (LstOwn (val l * 2 ^ (min k.toNat 4096)) w):=by
 obtain⟨hb1,hb2⟩:=h.bound
 have H:=hd_ h
 clear h
 go_enter Tryz.func175,Tryz.ntmps175
 go_wp2_with fail
 refine (qr_ _ _ _ _ _ H.out (by omega)).mono ?_
 rintro e w' ⟨m,rfl,Hm,hmn,HT,rfl⟩
 by_cases hm0:m=0
 ·subst hm0
  have Hz:Hid (dg (val l * 2 ^ (min k.toNat 4096))=[]):=hd_ (by rw[dg_nil_iff.1 Hm.out.symm,Nat.zero_mul,cu_])
  go_wp2
  go_ret
  exact⟨_,_,_,rfl,by rw[Hz.out];exact Wd.ofNil _,Below.refl _ _,fun h=>absurd (dg_nil_iff.1 (by rw[Hz.out];rfl)) h⟩
 ·have hmb:((m:Int) == 0)=false:=by simp[hm0]
  have hv0:Hid (val l≠0):=hd_ (fun h=>hm0 (Hm.out.trans (dg_nil_iff.2 h)))
  obtain⟨M,hM⟩:∃M:Nat,(max k 0:Int)=(M:Int):=⟨k.toNat,by omega⟩
  obtain⟨N,hN⟩:∃N:Nat,(min (M:Int) 4096:Int)=(N:Int):=⟨min M 4096,by omega⟩
  have HN:Hid (min k.toNat 4096=N):=hd_ (by omega)
  have hNb:N≤4096:=by omega
  obtain⟨q,hq⟩:∃q:Nat,(N:Int) / 32=(q:Int):=⟨N / 32,by omega⟩
  obtain⟨r,hr⟩:∃r:Nat,(N:Int) % 32=(r:Int):=⟨N % 32,by omega⟩
  have Hqr:Hid (N=32 * q+r):=hd_ (by omega)
  have hr31:r < 32:=by omega
  have hqb:q≤128:=by omega
  obtain⟨P,HP,hP⟩:∃P:Nat,Hid (P=2 ^ r)∧(2:Int) ^ r=(P:Int):=⟨2 ^ r,rfl,by simp⟩
  have hPb:P < 4294967296:=by rw[HP.out];exact Nat.lt_of_le_of_lt (Nat.pow_le_pow_right (by decide) (show r≤31 by omega)) (by decide)
  obtain⟨i0,hi,hz0,hz1,hz2⟩:=info_parts g9_
  have hx:Hid (okw (dg (val l))∧(dg (val l)).length=m∧val (dg (val l))=val l):=hd_ ⟨cz_ _,Hm.out.symm,a3_ _⟩
  go_wp2_with (at_make;refine cc_ _ rfl _ _ 25 rfl w.heap.size 81 i0 (.int .u32 0) Tryz.underlying25 hi hz0 hz1 rfl .i64 .i64 _ _ q (q+m+1) rfl rfl rfl (by omega) (by omega) (by rw[hz2];omega) (by unfold maxLen;omega) (Nat.le_refl _) ?_;intro w1 hown1 hgrow1)
  rw[dy_] at hown1
  have HO1:Hid (Own w1 w.heap.size w.heap.size q (q+m+1) (List.replicate q 0)):=hd_ ⟨hown1,ff_ q⟩
  have hB1:Below w.heap.size w w1:=(Below.refl _ _).grown hgrow1 (Nat.le_refl _) (fun k hk=>by cases hk)
  clear hown1 hgrow1
  go_loopw [5,6,29] (fun s cv i wr=>∃(j c g cap2:Nat) (o:List Nat),j≤m∧i=.int .i64 (j:Int)∧cv=.int .u32 (c:Int)∧c < 4294967296∧s=.slice (some ⟨g,0,none⟩) (q+j) cap2∧Hid (o.length=q+j)∧Hid (val o+4294967296 ^ (q+j) * c=low (dg (val l)) j * 2 ^ (32 * q+r))∧Hid (Own wr w.heap.size g (q+j) cap2 o)∧Below w.heap.size w wr) (fun _ _ i _=>m - (intOf i).toNat)
  case atStart=>exact⟨0,0,_,_,List.replicate q 0,by omega,rfl,rfl,by omega,rfl,hd_ (by simp),hd_ (by rw[fg_,cj_];simp),HO1,hB1⟩
  case round=>
   clear HO1 hB1
   obtain⟨j,c,g,cap2,o,hj,rfl,rfl,hc,rfl,Hol,Hv,HO,hB⟩:=hrel
   by_cases hlt:j < m
   ·obtain⟨b,off,rfl,hcl⟩:=(HT.out.later hB).at (by omega)
    have hck:=hcl j hlt
    have hxw:=bi_ hx.out.1 j
    obtain⟨x,hxx⟩:∃x,x=atw (dg (val l)) j:=⟨_,rfl⟩
    rw[←hxx] at hxw hck
    have Hx:=hd_ hxx
    have hj1:(j:Int) < (m:Int):=by omega
    have hbase:w.heap.size≤wr.heap.size:=hB.size
    clear hcl hxx
    go_wp2_with fail
    refine (h8_ x P c _ hxw hPb hc).mono ?_
    rintro e w' ⟨c2,y,rfl,hc2,hy,Hs,rfl⟩
    go_wp2_with (at_builtin;refine wpList_append_own _ rfl _ _ 25 rfl w.heap.size 81 i0 (.int .u32 0) 1 4 Tryz.underlying25 hi hz0 hz1 hz2 rfl (by decide) _ (q+j) _ rfl (HO.out.1.alloc _) ⟨wr.heap.size,0,none⟩ 1 1 (cf_ [y]) rfl rfl (Wd.lit1 wr 81 (x:=y) hy).cells (d3_ _) (by unfold maxLen;omega) (by omega) (by simp;omega) ?_)
    intro v' w2 hown hgrow _
    obtain⟨g2,cap3,rfl,HO2⟩:=Own.push (r:=y) hown HO.out.2 hy
    have HO':=hd_ HO2
    have hb:=HO.out.base
    have hB1:Below w.heap.size w w2:=(hB.alloc hbase _).grown hgrow (by simp;omega) (by intro k hk;simp[Value.ownBlock] at hk;omega)
    clear HO2 hown hgrow
    go_wp2
    go_roundw
    case rel=>exact⟨j+1,c2,g2,cap3,o ++ [y],by omega,by go_num,rfl,hc2,rfl,hd_ (by have:=Hol.out;simp;omega),hd_ (up_step Hol.out Hv.out (by rw[←Hx.out,←HP.out];exact Hs.out)),HO',hB1⟩
    case measure=>simp[intOf];omega
   ·obtain rfl:j=m:=by omega
    have Hv2:Hid (val o+4294967296 ^ (q+j) * c=val l * 2 ^ N):=hd_ (by rw[Hv.out,eh_ (by rw[hx.out.2.1];omega),hx.out.2.2,Hqr.out])
    clear hlt Hv
    by_cases hc0:c=0
    ·subst hc0
     have Hfin:Hid (o=dg (val l * 2 ^ N)):=hd_ (up_end0 HO.out.2 hx.out.2.1 hv0.out (by rw[Hqr.out];omega) Hol.out (by simpa using Hv2.out))
     go_wp2
     go_ret
     exact⟨_,_,_,rfl,by rw[HN.out,←Hfin.out];exact HO.out.wd,hB,fun _=>⟨_,rfl,hd_ (by rw[HN.out,←Hfin.out];exact HO.out)⟩⟩
    ·have Hfin:Hid (o ++ [c]=dg (val l * 2 ^ N)):=hd_ (up_end1 HO.out.2 hc hc0 (by rw[Hol.out];exact Hv2.out))
     have hcp:0 < c:=by omega
     have hcpi:(0:Int) < (c:Int):=by omega
     have hbase:w.heap.size≤wr.heap.size:=hB.size
     clear hc0
     go_wp2_with (at_builtin;refine wpList_append_own _ rfl _ _ 25 rfl w.heap.size 81 i0 (.int .u32 0) 1 4 Tryz.underlying25 hi hz0 hz1 hz2 rfl (by decide) _ (q+j) _ rfl (HO.out.1.alloc _) ⟨_,0,none⟩ 1 1 (cf_ [c]) rfl rfl (Wd.lit1 _ 81 (x:=c) hc).cells (d3_ _) (by unfold maxLen;omega) (by omega) (by simp;omega) ?_)
     intro v' w2 hown hgrow _
     obtain⟨g2,cap3,rfl,HO2⟩:=Own.push (r:=c) hown HO.out.2 hc
     have HO':=hd_ HO2
     have hb:=HO.out.base
     have hB1:Below w.heap.size w w2:=(hB.alloc hbase _).grown hgrow (by simp;omega) (by intro k hk;simp[Value.ownBlock] at hk;omega)
     clear HO2 hown hgrow
     go_wp2
     go_ret
     exact⟨_,_,_,rfl,by rw[HN.out,←Hfin.out];exact HO'.out.wd,hB1,fun _=>⟨_,rfl,hd_ (by rw[HN.out,←Hfin.out];exact HO'.out)⟩⟩
theorem twos_up(a:OA_)(n cap:Nat)(l:List Nat)(k:Int)(w:World)(h:Wd w a n cap l)(hn:n≤1048576000000) :
 Calls Tryz.prog 175 #[.slice a n cap,.int .i64 k] w (Lst (dg (val l * 2 ^ (min k.toNat 4096))) w):=
 (mb_ a n cap l k w h hn).mono fun _ _ hp=>hp.lst
theorem Wd.drop{w:World}{b off m cap q:Nat}{l:List Nat}(h:Wd w (some ⟨b,off,none⟩) (q+m) cap l):Wd w (some ⟨b,off+q,none⟩) m (cap - q) (l.drop q):=by
 have h1:=h.bound
 have h2:=h.len
 refine ⟨by rw[List.length_drop];omega,by omega,by omega,lo_ h.ok q,fun e=>(by cases e),?_⟩
 by_cases h0:m=0
 ·exact .inl h0
 ·obtain⟨b',off',e,hc⟩:=h.at (by omega)
  simp only[Option.some.injEq,Addr.mk.injEq,and_true] at e
  obtain⟨rfl,rfl⟩:=e
  exact .inr ⟨b,off+q,rfl,fun j hj=>by rw[Nat.add_assoc,hc (q+j) (by omega),fn_]⟩
theorem twos_down(a:OA_)(n cap:Nat)(l:List Nat)(k:Int)(w:World)(h:Wd w a n cap l)(hn:n≤1048576000000)(hk:k≤9223372036854775807) :
 Calls Tryz.prog 177 #[.slice a n cap,.int .i64 k] w (Lst (dg (val l / 2 ^ k.toNat)) w):=by
 obtain⟨hb1,hb2⟩:=h.bound
 have H:=hd_ h
 clear h
 obtain⟨M,hM⟩:∃M:Nat,(max k 0:Int)=(M:Int):=⟨k.toNat,by omega⟩
 have HM:Hid (k.toNat=M):=hd_ (by omega)
 have hMb:M≤9223372036854775807:=by omega
 obtain⟨q,hq⟩:∃q:Nat,(M:Int) / 32=(q:Int):=⟨M / 32,by omega⟩
 obtain⟨r,hr⟩:∃r:Nat,(M:Int) % 32=(r:Int):=⟨M % 32,by omega⟩
 have Hqr:Hid (M=32 * q+r):=hd_ (by omega)
 have hr31:r < 32:=by omega
 by_cases hqn:n≤q
 ·have hqi:(n:Int)≤(q:Int):=by omega
  have Hz:Hid (dg (val l / 2 ^ k.toNat)=[]):=hd_ (by
   have h1:val l < 2 ^ k.toNat:=Nat.lt_of_lt_of_le (ee_ H.out.ok) (by rw[i6_,HM.out,Hqr.out,H.out.len];exact Nat.pow_le_pow_right (by decide) (by omega))
   rw[Nat.div_eq_of_lt h1,cu_])
  clear hqn
  go_enter Tryz.func177,Tryz.ntmps177
  go_wp2
  go_ret
  exact⟨_,_,_,rfl,by rw[Hz.out];exact Wd.ofNil _,Below.refl _ _⟩
 ·obtain⟨m,rfl⟩:∃m,n=q+m:=⟨n - q,by omega⟩
  have hm0:0 < m:=by omega
  obtain⟨b,off,rfl,hcc⟩:=H.out.at (by omega)
  clear hcc
  have HT:=hd_ H.out.drop
  have ht:Hid (okw (l.drop q)∧(l.drop q).length=m∧val (l.drop q) / 2 ^ r=val l / 2 ^ k.toNat):=hd_ ⟨HT.out.ok,HT.out.len,by rw[HM.out,Hqr.out,←q6_ H.out.ok];rfl⟩
  generalize l.drop q=t at *
  obtain⟨s,hs⟩:∃s:Nat,(32:Int) - (r:Int)=(s:Int):=⟨32 - r,by omega⟩
  have Hs:Hid (s=32 - r):=hd_ (by omega)
  have hqi:(q:Int) < (q:Int)+(m:Int):=by omega
  obtain⟨i0,hi,hz0,hz1,hz2⟩:=info_parts g9_
  clear hqn
  go_enter Tryz.func177,Tryz.ntmps177
  go_wp2_with (at_make;refine cc_ _ rfl _ _ 25 rfl w.heap.size 81 i0 (.int .u32 0) Tryz.underlying25 hi hz0 hz1 rfl .i64 .i64 _ _ m m rfl rfl rfl rfl (by omega) (by rw[hz2];omega) (by unfold maxLen;omega) (Nat.le_refl _) ?_;intro w1 hown1 hgrow1)
  rw[dy_] at hown1
  have HO1:Hid (Own w1 w.heap.size w.heap.size m m (List.replicate m 0)):=hd_ ⟨hown1,ff_ m⟩
  have hB1:Below w.heap.size w w1:=(Below.refl _ _).grown hgrow1 (Nat.le_refl _) (fun k hk=>by cases hk)
  clear hown1 hgrow1
  go_loopw [26] (fun i wr=>∃(j:Nat) (o:List Nat),j≤m∧i=.int .i64 (j:Int)∧Hid (o.length=j)∧Hid (val o=low t j / 2 ^ r)∧Hid (Own wr w.heap.size w.heap.size m m (o ++ List.replicate (m - j) 0))∧Below w.heap.size w wr) (fun i _=>m - (intOf i).toNat)
  case atStart=>exact⟨0,[],by omega,rfl,hd_ rfl,hd_ (by rw[cj_,Nat.zero_div];rfl),hd_ (by simpa using HO1.out),hB1⟩
  case round=>
   clear HO1 hB1
   obtain⟨j,o,hj,rfl,Hol,Hv,HO,hB⟩:=hrel
   by_cases hlt:j < m
   ·obtain⟨b2,off2,e2,hcl⟩:=(HT.out.later hB).at (by omega)
    simp only[Option.some.injEq,Addr.mk.injEq,and_true] at e2
    obtain⟨rfl,rfl⟩:=e2
    have hck:=hcl j hlt
    have hxw:=bi_ ht.out.1 j
    obtain⟨x,hxx⟩:∃x,x=atw t j:=⟨_,rfl⟩
    rw[←hxx] at hxw hck
    have Hx:=hd_ hxx
    have hj1:(j:Int) < (m:Int):=by omega
    have hcell:=HO.out.cell (k:=j) (by omega)
    have hfro:=HO.out.1.frozenAt j
    generalize atw (o ++ List.replicate (m - j) 0) j=old at hcell
    obtain⟨y,hy⟩:∃y:Nat,(x:Int) / 2 ^ r=(y:Int):=⟨x / 2 ^ r,gc_ x r⟩
    have Hy:Hid (y=x / 2 ^ r):=hd_ (by have:=gc_ x r;omega)
    have hyw:y < 4294967296:=by rw[Hy.out];exact n5_ hxw r
    have HO1:=HO.out.set j y hyw
    rw[g3_ o m j y Hol.out hlt] at HO1
    have hb:=HO.out.base
    have hB1:=hB.setCell (p:=⟨w.heap.size,j,none⟩) hb.1 (.int .u32 (y:Int))
    clear hcl hxx
    by_cases hj0:j=0
    ·have Hj0:=hd_ hj0
     have hji:(j:Int)≤0:=by omega
     clear hj0
     go_wp2
     go_roundw
     case rel=>exact⟨j+1,o ++ [y],by omega,by go_num,hd_ (by have:=Hol.out;simp;omega),hd_ (by
      obtain rfl:j=0:=Hj0.out
      obtain rfl:=List.eq_nil_of_length_eq_zero Hol.out
      rw[Hy.out,Hx.out];exact vm_ r),hd_ HO1,hB1⟩
     case measure=>simp[intOf];omega
    ·obtain⟨p,rfl⟩:∃p,j=p+1:=⟨j - 1,by omega⟩
     have hcell2:=HO.out.cell (k:=p) (by omega)
     have hfro2:=HO.out.1.frozenAt p
     rw[mg_ (by rw[Hol.out];omega)] at hcell2
     have hroom:=down_room (by omega) ht.out.1 Hv.out
     have hor:=down_or (w:=x) (by omega) hroom
     obtain⟨u,hu⟩:∃u,u=atw o p:=⟨_,rfl⟩
     rw[←hu] at hcell2 hroom hor
     have Hu:=hd_ hu
     obtain⟨z,hz⟩:∃z:Nat,(x:Int) * 2 ^ s % 4294967296=(z:Int):=⟨x * 2 ^ s % 4294967296,by rw[i0_];omega⟩
     have Hz:Hid (z=x * 2 ^ (32 - r) % 4294967296):=hd_ (by rw[←Hs.out];have:=i0_ x s;omega)
     rw[←Hz.out] at hor
     have huw:u < 4294967296:=Nat.lt_of_lt_of_le hroom (show 2 ^ (32 - r)≤2 ^ 32 from Nat.pow_le_pow_right (by decide) (by omega))
     have hov:bits .or .u32 (u:Int) (z:Int)=((u+z:Nat):Int):=by rw[vs_ u z huw (by rw[Hz.out];exact Nat.mod_lt _ (by decide)),hor.1]
     obtain⟨v,hv⟩:∃v,v=u+z:=⟨_,rfl⟩
     rw[←hv] at hov hor
     have Hvv:=hd_ hv
     have hvw:v < 4294967296:=hor.2
     have hB2:=hB1.setCell (p:=⟨w.heap.size,p,none⟩) hb.1 (.int .u32 (v:Int))
     have HO2:=Own.set HO1 p v hvw
     rw[vd_ _ _ _ _ _ (by rw[Hol.out];omega)] at HO2
     have HO2':=hd_ HO2
     have HB2:=hd_ hB2
     have hp1:(p:Int) < (m:Int):=by omega
     clear hu hv hor hroom HO1 hB1 HO2 hB2 hj0
     go_wp2
     go_region
     go_wp2
     go_roundw
     case rel=>exact⟨p+1+1,o.set p v ++ [y],by omega,by go_num,hd_ (by have:=Hol.out;simp;omega),hd_ (by
      rw[Hvv.out,Hu.out,Hz.out,Hy.out,Hx.out];exact down_step (by omega) Hol.out Hv.out),hd_ ⟨HO2'.out.1.drew,HO2'.out.2⟩,HB2.out.drew⟩
     case measure=>simp[intOf];omega
   ·obtain rfl:j=m:=by omega
    have Hfin:Hid (val o=val l / 2 ^ k.toNat):=hd_ (by rw[Hv.out,eh_ (by rw[ht.out.2.1];omega),ht.out.2.2])
    have HW:=HO.out.wd
    rw[Nat.sub_self,List.replicate_zero,List.append_nil] at HW
    have HW':=hd_ HW
    clear HW
    go_wp2_with fail
    refine (qr_ _ _ _ _ _ HW'.out (by omega)).mono ?_
    rintro e w' ⟨z,rfl,Hz,hz,HT2,rfl⟩
    rw[Hfin.out] at HT2
    go_wp2
    go_ret
    exact⟨_,_,_,rfl,HT2.out,hB⟩
def ux_ (base g N cap i m q:Nat) (D P:List Nat) (w:World) (e:Ending) (w':World):Prop:=
 ∃(P':List Nat) (b:Nat),e=.returned (.int .u32 (b:Int))∧b≤1∧Hid (Own w' base g N cap P')∧w.grownBy w' (some g)∧Hid (val P'+4294967296 ^ i * (q * val D)=val P+4294967296 ^ (i+m+1) * b)∧Hid (Flat P' (i+m+1))
theorem tb_(w0 w:World)(g i N cap c m dcap q:Nat)(P D:List Nat)(d:OA_)(hO:Own w w0.heap.size g N cap P)(hB:Below w0.heap.size w0 w)(hd:Wd w0 d m dcap D)(hi:i+m < N)(hq:q < 4294967296)(hN:N≤2097152000000)(hF:Flat P (i+m+1)) :
 Calls Tryz.prog 180 #[.slice (some ⟨g,i,none⟩) (m+1) c,.slice d m dcap,.int .u32 (q:Int)] w (ux_ w0.heap.size g N cap i m q D P w):=by
 have HO0:=hd_ hO
 have HD:=hd_ hd
 have HF0:=hd_ hF
 have HDl:=hd_ hd.len
 have HPl:=hd_ hO.len
 clear hO hd hF
 go_enter Tryz.func180,Tryz.ntmps180
 go_wp2
 go_loopw [7,9,14] (fun cv bv jv wr=>∃(j y b:Nat) (R:List Nat),j≤m∧jv=.int .i64 (j:Int)∧cv=.int .u32 (y:Int)∧bv=.int .u32 (b:Int)∧y < 4294967296∧b≤1∧Hid (kr_ P D R i q j y b)∧Hid (Flat R (i+m+1))∧Hid (Own wr w0.heap.size g N cap R)∧w.grownBy wr (some g)) (fun _ _ jv _=>m - (intOf jv).toNat)
 case atStart=>exact⟨0,0,0,P,by omega,rfl,rfl,rfl,by omega,by omega,hd_ (vk_ _ _ _ _),HF0,HO0,e8_ _ _⟩
 case round=>
  obtain⟨j,y,b,R,hj,rfl,rfl,rfl,hy,hb,HT,HF,HO,hG⟩:=hrel
  have hbase:=HO.out.base
  have hB2:=cp_ hB hG hbase.1
  by_cases hlt:j < m
  ·obtain⟨bd,od,rfl,hcd⟩:=(HD.out.later hB2).at (by omega)
   have hcdj:=hcd j hlt
   have hji:(j:Int) < (m:Int):=by omega
   have hxw:=bi_ HD.out.ok j
   obtain⟨x,hxx⟩:∃x,x=atw D j:=⟨_,rfl⟩
   rw[←hxx] at hxw hcdj
   have Hx:=hd_ hxx
   have hcell:=HO.out.cell (k:=i+j) (by omega)
   have hfro:=HO.out.1.frozenAt (i+j)
   have huw:=bi_ HO.out.2 (i+j)
   obtain⟨u,huu⟩:∃u,u=atw R (i+j):=⟨_,rfl⟩
   rw[←huu] at huw hcell
   have Hu:=hd_ huu
   clear hcd hxx huu hB2
   go_wp2_with fail
   refine (h8_ x q y _ hxw hq hy).mono ?_
   rintro e w' ⟨hi2,lo,rfl,hh,hl,Hs,rfl⟩
   go_wp2_with fail
   refine (ge_ u lo b _ huw hl hb).mono ?_
   rintro e w' ⟨r,z,rfl,hz,hr,Hr,rfl⟩
   have HOs:=hd_ (HO.out.set (i+j) r hr)
   have hGs:=hd_ (cs_ hG (ce_ _ g (i+j) (.int .u32 (r:Int))))
   go_wp2
   go_roundw
   case rel=>
    exact⟨j+1,hi2,z,R.set (i+j) r,by omega,by go_num,rfl,rfl,hh,hz,hd_ (by
     have h1:=HPl.out
     have h2:=HO.out.len
     exact take_step HT.out (by omega) (by rw[←Hx.out];exact Hs.out) (by rw[←Hu.out];exact Hr.out)),hd_ (ln_ HF.out (by omega)),HOs,hGs.out⟩
   case measure=>simp[intOf];omega
  ·obtain rfl:j=m:=by omega
   have hcell:=HO.out.cell (k:=i+j) (by omega)
   have hfro:=HO.out.1.frozenAt (i+j)
   have huw:=bi_ HO.out.2 (i+j)
   obtain⟨u,huu⟩:∃u,u=atw R (i+j):=⟨_,rfl⟩
   rw[←huu] at huw hcell
   have Hu:=hd_ huu
   clear huu hB2
   go_wp2_with fail
   refine (ge_ u y b _ huw hy hb).mono ?_
   rintro e w' ⟨r,z,rfl,hz,hr,Hr,rfl⟩
   have HOs:=hd_ (HO.out.set (i+j) r hr)
   have hGs:=hd_ (cs_ hG (ce_ _ g (i+j) (.int .u32 (r:Int))))
   go_wp2
   go_ret
   exact⟨R.set (i+j) r,z,rfl,hz,HOs,hGs.out,hd_ (by
    have h2:=HO.out.len
    exact take_end HT.out HDl.out (by omega) (by rw[←Hu.out];exact Hr.out)),hd_ (ln_ HF.out (by omega))⟩
def GivePost (base g N cap i m:Nat) (D P:List Nat) (w:World) (e:Ending) (w':World):Prop:=
 ∃(P':List Nat) (z:Nat),e=.returned (.tuple #[])∧z≤1∧Hid (Own w' base g N cap P')∧w.grownBy w' (some g)∧Hid (val P'+4294967296 ^ (i+m+1) * z=val P+4294967296 ^ i * val D)∧Hid (Flat P' (i+m+1))
theorem ow_(w0 w:World)(g i N cap c m dcap:Nat)(P D:List Nat)(d:OA_)(hO:Own w w0.heap.size g N cap P)(hB:Below w0.heap.size w0 w)(hd:Wd w0 d m dcap D)(hi:i+m < N)(hN:N≤2097152000000)(hF:Flat P (i+m+1)) :
 Calls Tryz.prog 181 #[.slice (some ⟨g,i,none⟩) (m+1) c,.slice d m dcap] w (GivePost w0.heap.size g N cap i m D P w):=by
 have HO0:=hd_ hO
 have HD:=hd_ hd
 have HF0:=hd_ hF
 have HDl:=hd_ hd.len
 have HPl:=hd_ hO.len
 clear hO hd hF
 go_enter Tryz.func181,Tryz.ntmps181
 go_wp2
 go_loopw [4,9] (fun cv jv wr=>∃(j y:Nat) (R:List Nat),j≤m∧jv=.int .i64 (j:Int)∧cv=.int .u32 (y:Int)∧y≤1∧Hid (kp_ P D R i j y)∧Hid (Flat R (i+m+1))∧Hid (Own wr w0.heap.size g N cap R)∧w.grownBy wr (some g)) (fun _ jv _=>m - (intOf jv).toNat)
 case atStart=>exact⟨0,0,P,by omega,rfl,rfl,by omega,hd_ (vi_ _ _ _),HF0,HO0,e8_ _ _⟩
 case round=>
  obtain⟨j,y,R,hj,rfl,rfl,hy,HT,HF,HO,hG⟩:=hrel
  have hbase:=HO.out.base
  have hB2:=cp_ hB hG hbase.1
  by_cases hlt:j < m
  ·obtain⟨bd,od,rfl,hcd⟩:=(HD.out.later hB2).at (by omega)
   have hcdj:=hcd j hlt
   have hji:(j:Int) < (m:Int):=by omega
   have hxw:=bi_ HD.out.ok j
   obtain⟨x,hxx⟩:∃x,x=atw D j:=⟨_,rfl⟩
   rw[←hxx] at hxw hcdj
   have Hx:=hd_ hxx
   have hcell:=HO.out.cell (k:=i+j) (by omega)
   have hfro:=HO.out.1.frozenAt (i+j)
   have huw:=bi_ HO.out.2 (i+j)
   obtain⟨u,huu⟩:∃u,u=atw R (i+j):=⟨_,rfl⟩
   rw[←huu] at huw hcell
   have Hu:=hd_ huu
   clear hcd hxx huu hB2
   go_wp2_with fail
   refine (h5_ u x y _ huw hxw hy).mono ?_
   rintro e w' ⟨r,z,rfl,hz,hr,Hr,rfl⟩
   have HOs:=hd_ (HO.out.set (i+j) r hr)
   have hGs:=hd_ (cs_ hG (ce_ _ g (i+j) (.int .u32 (r:Int))))
   go_wp2
   go_roundw
   case rel=>
    exact⟨j+1,z,R.set (i+j) r,by omega,by go_num,rfl,hz,hd_ (by
     have h1:=HPl.out
     have h2:=HO.out.len
     exact give_step HT.out (by omega) (by rw[←Hx.out,←Hu.out];exact Hr.out)),hd_ (ln_ HF.out (by omega)),HOs,hGs.out⟩
   case measure=>simp[intOf];omega
  ·obtain rfl:j=m:=by omega
   have hcell:=HO.out.cell (k:=i+j) (by omega)
   have hfro:=HO.out.1.frozenAt (i+j)
   have huw:=bi_ HO.out.2 (i+j)
   obtain⟨u,huu⟩:∃u,u=atw R (i+j):=⟨_,rfl⟩
   rw[←huu] at huw hcell
   have Hu:=hd_ huu
   clear huu hB2
   go_wp2_with fail
   refine (jv_ u y _ huw hy).mono ?_
   rintro e w' ⟨r,z,rfl,hz,hr,Hr,rfl⟩
   have HOs:=hd_ (HO.out.set (i+j) r hr)
   have hGs:=hd_ (cs_ hG (ce_ _ g (i+j) (.int .u32 (r:Int))))
   go_wp2
   go_end0
   exact⟨R.set (i+j) r,z,rfl,hz,HOs,hGs.out,hd_ (by
    have h2:=HO.out.len
    exact give_end HT.out HDl.out (by omega) (by rw[←Hu.out];exact Hr.out)),hd_ (ln_ HF.out (by omega))⟩
theorem Own.window{w:World}{base g N cap:Nat}{P:List Nat}(h:Own w base g N cap P){i k c:Nat}(hi:i+k≤N)(hk:0 < k)(hc:k≤c)(hc2:c≤9223372036854775807):Wd w (some ⟨g,i,none⟩) k c ((P.drop i).take k):=by
 have hl:=h.len
 exact⟨by rw[List.length_take,List.length_drop];omega,hc,hc2,ik_ (lo_ h.2 i) k,fun e=>(by cases e),.inr ⟨g,i,rfl,fun j hj=>by rw[h.cell (by omega),ih_ hj,fn_]⟩⟩
theorem k1_(u1 u0 v q r:Nat)(w:World)(h0:u0 < 4294967296)(hv:v < 4294967296)(hlt:u1 < v)(hq:Hid (q=(u1 * 4294967296+u0) / v))(hr:Hid (r=(u1 * 4294967296+u0) % v)):Calls Tryz.prog 173 #[.int .u32 (u1:Int),.int .u32 (u0:Int),.int .u32 (v:Int)] w fun e w'=>
 e=.returned (.tuple #[.int .u32 (q:Int),.int .u32 (r:Int),.bool true])∧∃n,w'=w.drewN n:=
 (rf_ (u1:Int) (u0:Int) (v:Int) w (by omega) (by omega) (by omega) (by omega) (by omega) (by omega)).mono fun e w' ⟨he,hw⟩=>⟨by
   have e1:((u1:Int) * 4294967296+(u0:Int)) / (v:Int)=(q:Int):=by rw[hq.out,Int.natCast_ediv,Int.natCast_add,Int.natCast_mul];rfl
   have e2:((u1:Int) * 4294967296+(u0:Int)) % (v:Int)=(r:Int):=by rw[hr.out,Int.natCast_emod,Int.natCast_add,Int.natCast_mul];rfl
   rw[he,e1,e2],hw⟩
theorem o8_(u1 u0 v:Nat)(w:World)(hge:v≤u1):Calls Tryz.prog 173 #[.int .u32 (u1:Int),.int .u32 (u0:Int),.int .u32 (v:Int)] w fun e w'=>e=.returned (.tuple #[.int .u32 0,.int .u32 0,.bool false])∧w=w':=
 rz_ _ _ _ w (by omega)
theorem u4_(w:World)(a:OA_)(n cap:Nat)(R:List Nat)(d:OA_)(M K L dcap:Nat)(D:List Nat)(hR:Wd w a n cap R)(hd:Wd w d M dcap D)(hM:M < n)(hK:(M:Int) - 1=(K:Int))(hL:(M:Int) - 2=(L:Int)) :
 Calls Tryz.prog 179 #[.slice a n cap,.slice d M dcap] w fun e w'=>e=.returned (.int .u32 ((dz_ (atw R M) (atw R K) (atw D K) (atw D L):Nat):Int))∧∃q,w'=w.drewN q:=by
 obtain⟨hb1,hb2⟩:=hR.bound
 obtain⟨hb3,hb4⟩:=hd.bound
 have hokR:=hR.ok
 have hokD:=hd.ok
 obtain⟨ba,oa,rfl,hca⟩:=hR.at (by omega)
 obtain⟨bd,od,rfl,hcd⟩:=hd.at (by omega)
 have hc1:=hca M (by omega)
 have hc2:=hca K (by omega)
 have hc3:=hcd K (by omega)
 have hc4:=hcd L (by omega)
 have hw1:=bi_ hokR M
 have hw0:=bi_ hokR K
 have hv1:=bi_ hokD K
 have hv0:=bi_ hokD L
 clear hca hcd hR hd hokR hokD
 generalize atw R M=u1 at *
 generalize atw R K=u0 at *
 generalize atw D K=v1 at *
 generalize atw D L=v0 at *
 have hMi:(M:Int) < (n:Int):=by omega
 have hKi:(K:Int) < (n:Int):=by omega
 have hKj:(K:Int) < (M:Int):=by omega
 have hLj:(L:Int) < (M:Int):=by omega
 by_cases hle:v1≤u1
 ·have HG:Hid (dz_ u1 u0 v1 v0=4294967295):=hd_ (by unfold dz_;rw[if_pos hle])
  have HLE:=hd_ hle
  clear hle
  go_enter Tryz.func179,Tryz.ntmps179
  go_wp2
  go_quiet ((go_at_call 173;exact im_ (o8_ u1 u0 v1 _ HLE.out) ⟨_,rfl⟩))
  go_wp2
  go_ret
  exact⟨by rw[HG.out];rfl,_,rfl⟩
 ·obtain⟨q,hq⟩:∃q,q=(u1 * 4294967296+u0) / v1:=⟨_,rfl⟩
  obtain⟨r,hr⟩:∃r,r=(u1 * 4294967296+u0) % v1:=⟨_,rfl⟩
  have hqw:q < 4294967296:=by rw[hq];exact Nat.div_lt_of_lt_mul (by omega)
  have hrw:r < 4294967296:=by
   have:r < v1:=by rw[hr];exact Nat.mod_lt _ (by omega)
   omega
  have HQ:=hd_ hq
  have HR:=hd_ hr
  have HLT:Hid (u1 < v1):=hd_ (by omega)
  clear hq hr hle
  go_enter Tryz.func179,Tryz.ntmps179
  go_wp2
  go_quiet ((go_at_call 173;exact r7_ (k1_ u1 u0 v1 q r _ hw0 hv1 HLT.out HQ HR) (fun p=>⟨_,World.drewN_drewN ..⟩)))
  go_wp2_with fail
  refine (h8_ q v0 0 _ hqw hv0 (by omega)).mono ?_
  rintro e w' ⟨z,y,rfl,hz,hy,Hs,rfl⟩
  have HZ:Hid (z=q * v0 / 4294967296):=hd_ (by have:=Hs.out;omega)
  by_cases hgt:r < z
  ·have HG:Hid (dz_ u1 u0 v1 v0=q - 1):=hd_ (by
    unfold dz_
    rw[if_neg (by have:=HLT.out;omega),←HQ.out,←HR.out,←HZ.out,if_pos hgt])
   have hq1:1≤q:=by
    rcases Nat.eq_zero_or_pos q with h0 | h0
    ·have:=HZ.out;rw[h0] at this;simp at this;omega
    ·exact h0
   obtain⟨q1,hq⟩:∃q1:Nat,(q:Int) - 1=(q1:Int):=⟨q - 1,by omega⟩
   have Hq:Hid (q - 1=q1):=hd_ (by omega)
   go_wp2
   go_ret
   exact⟨by rw[HG.out,Hq.out];rfl,_,rfl⟩
  ·have HG:Hid (dz_ u1 u0 v1 v0=q):=hd_ (by
    unfold dz_
    rw[if_neg (by have:=HLT.out;omega),←HQ.out,←HR.out,←HZ.out,if_neg hgt])
   go_wp2
   go_ret
   exact⟨by rw[HG.out];rfl,_,rfl⟩
def t2_ (base g N cap i:Nat) (D P:List Nat) (w:World) (e:Ending) (w':World):Prop:=
 ∃(P':List Nat) (q:Nat),e=.returned (.int .u32 (q:Int))∧q < 4294967296∧Hid (Own w' base g N cap P')∧w.grownBy w' (some g)∧Hid (vf_ P D P' i q)
theorem pr_(w0 w:World)(g i N cap c m dcap:Nat)(P D:List Nat)(d:OA_)(hO:Own w w0.heap.size g N cap P)(hB:Below w0.heap.size w0 w)(hd:Wd w0 d (m+2) dcap D)(hi:i+m+2 < N)(hc:m+3≤c)(hc2:c≤9223372036854775807)(hN:N≤2097152000000)(hv:Hid (2147483648≤atw D (m+1)))(hlt:Hid (val P < 4294967296 ^ (i+1) * val D)) :
 Calls Tryz.prog 176 #[.slice (some ⟨g,i,none⟩) (m+3) c,.slice d (m+2) dcap] w (t2_ w0.heap.size g N cap i D P w):=by
 have HF:Hid (Flat P (i+(m+2)+1)):=hd_ (vc_ (by
  have h1:=hlt.out
  have h2:=ee_ hd.ok
  rw[hd.len] at h2
  have h3:4294967296 ^ (i+1) * val D≤4294967296 ^ (i+1) * 4294967296 ^ (m+2):=Nat.mul_le_mul_left _ (by omega)
  rw[←Nat.pow_add,show i+1+(m+2)=i+(m+2)+1 by omega] at h3
  generalize 4294967296 ^ (i+(m+2)+1)=y1 at *
  generalize 4294967296 ^ (i+1) * val D=y2 at *
  omega))
 have HG:=hd_ (vv_ hO.2 hd.ok hd.len (by have:=HF.out;rwa [show i+(m+2)+1=i+m+3 by omega] at this) hv.out hlt.out)
 have Hwin:=hd_ (hO.window (i:=i) (k:=m+3) (c:=c) (by omega) (by omega) hc hc2)
 have e1:atw ((P.drop i).take (m+3)) (m+2)=atw P (i+m+2):=by rw[ih_ (by omega),fn_,Nat.add_assoc]
 have e0:atw ((P.drop i).take (m+3)) (m+1)=atw P (i+m+1):=by rw[ih_ (by omega),fn_,Nat.add_assoc]
 have He:Hid (dz_ (atw ((P.drop i).take (m+3)) (m+2)) (atw ((P.drop i).take (m+3)) (m+1)) (atw D (m+1)) (atw D m)=dz_ (atw P (i+m+2)) (atw P (i+m+1)) (atw D (m+1)) (atw D m)):=hd_ (by rw[e1,e0])
 have HO:=hd_ hO
 have Hd:=hd_ hd
 clear e1 e0 hO hd
 have hbase:=HO.out.base
 go_enter Tryz.func176,Tryz.ntmps176
 go_wp2_with fail
 refine (u4_ _ _ _ _ _ _ (m+2) (m+1) m _ _ Hwin.out (Hd.out.later hB) (by omega) (by omega) (by omega)).mono ?_
 rintro e w' ⟨rfl,p,rfl⟩
 rw[He.out]
 have hgw:=HG.out.2.2
 have HG2:Hid (top P i < (dz_ (atw P (i+m+2)) (atw P (i+m+1)) (atw D (m+1)) (atw D m)+1) * val D∧dz_ (atw P (i+m+2)) (atw P (i+m+1)) (atw D (m+1)) (atw D m) * val D≤top P i+val D):=hd_ ⟨HG.out.1,HG.out.2.1⟩
 clear HG He
 generalize dz_ (atw P (i+m+2)) (atw P (i+m+1)) (atw D (m+1)) (atw D m)=q at *
 have hBd:=below_drewN hB p
 have HOd:=hd_ (show Own (w.drewN p) w0.heap.size g N cap P from HO.out)
 go_wp2_with fail
 refine (tb_ w0 (w.drewN p) g i N cap c (m+2) dcap q P D d HOd.out hBd Hd.out (by omega) hgw hN HF.out).mono ?_
 rintro e w1 ⟨P1,b,rfl,hb,HO1,hG1,HV1,HF1⟩
 have hG01:=cs_ (sz_ (e8_ w (some g)) p) hG1
 have hB1:=cp_ hBd hG1 hbase.1
 by_cases hb0:b=0
 ·subst hb0
  have HT:Hid (vf_ P D P1 i q):=hd_ (taken_yes HO.out.2 HG2.out.1 HV1.out)
  go_wp2
  go_ret
  exact⟨P1,q,rfl,hgw,HO1,hG01,HT⟩
 ·have hb1:b=1:=by omega
  have hbi:(0:Int) < (b:Int):=by omega
  have HV1':=hd_ (hb1▸HV1.out)
  clear hb0 hb1 HV1
  go_wp2_with fail
  refine (ow_ w0 _ g i N cap c (m+2) dcap P1 D d HO1.out hB1 Hd.out (by omega) hN HF1.out).mono ?_
  rintro e w2 ⟨P2,z,rfl,hz,HO2,hG2,HV2,HF2⟩
  have HT:=hd_ (vb_ HO.out.2 (flat_lt HO1.out.2 HF1.out) (flat_lt HO2.out.2 HF2.out) HG2.out.2 hz HV1'.out HV2.out)
  have hq1:1≤q:=HT.out.1
  have hG02:=cs_ hG01 hG2
  obtain⟨q1,hq⟩:∃q1:Nat,(q:Int) - 1=(q1:Int):=⟨q - 1,by omega⟩
  have Hq:Hid (q - 1=q1):=hd_ (by omega)
  go_wp2
  go_ret
  exact⟨P2,q1,rfl,by omega,HO2,hG02,hd_ (by rw[←Hq.out];exact HT.out.2)⟩
end Go.Proofs.YtocebjbjnfammaaGreat
