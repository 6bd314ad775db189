import Derived.Test.YtocebjbjnfammaaGreatTG11
import Derived.Test.YtocebjbjnfammaaGreatTG8
import Derived.Deep.RegionLaw
import Derived.Deep.RegionHeld3
import Derived.Deep.CutRange
import Derived.Test.YtocebjbjnfammaaGreatTG6
import Derived.Test.YtocebjbjnfammaaGreatTG7
import Derived.Test.YtocebjbjnfammaaGreatTG2
import Derived.Test.YtocebjbjnfammaaGreatTG1
set_option maxRecDepth 4096
set_option maxHeartbeats 16000000
namespace Go.Proofs.YtocebjbjnfammaaGreat
open Go.RowKit
theorem my_{w w':World}{p q r p2 q2 r2:Addr}{x y z x2 y2 z2:Value}(h:w.cell? p=some x∧w.cell? q=some y∧w.cell? r=some z)(k:w.cell? p2=some x2∧w.cell? q2=some y2∧w.cell? r2=some z2)(hb:Below w.heap.size w w') :
 w'.cell? p=some x∧w'.cell? q=some y∧w'.cell? r=some z∧w'.cell? p2=some x2∧w'.cell? q2=some y2∧w'.cell? r2=some z2:=⟨cell_later hb h.1,cell_later hb h.2.1,cell_later hb h.2.2,cell_later hb k.1,cell_later hb k.2.1,cell_later hb k.2.2⟩
def LstDivI (A B:LR_) (n:Nat) (I:List Rat→List Rat→Prop) (w:World) (e:Ending) (w':World):Prop:=∃(a:OA_) (n1 c:Nat) (q:LR_) (b:OA_) (m d:Nat) (r:LR_),e=.returned (.tuple #[.slice a n1 c,.slice b m d])∧Rw w' a n1 c q∧Rw w' b m d r∧isDiv A B q r∧ah_ q=q∧ah_ r=r∧r.length≤n∧(∃Q,q=ah_ Q∧I Q r)∧q.length≤n∧Below w.heap.size w w'
theorem h1_(a:OA_)(n c:Nat)(ps:LR_)(b:OA_)(m d:Nat)(rs:LR_)(K T:Nat)(I:List Rat→List Rat→Prop)(w:World)(h:Rw w a n c ps)(k:Rw w b m d rs)(hn:n≤200)(hm:m≤200)(hp:∀q∈ps,qlen q≤15728640000)(hr:∀q∈rs,qlen q≤K)
 (hB:ah_ rs=rs) (h0:0 < m) (hW:DivWay ps rs K T I) (hT:T≤2000000000):Calls Tryz.prog 53 #[.slice a n c,.slice b m d] w (LstDivI ps rs n I w):=by
 have hbd2:=k.bound
 have HM:=hd_ k
 have hl1:=h.len
 have hl2:=k.len
 have HRL:=hd_ hl2
 have HRR:=hd_ hr
 have HBN:=hd_ hB
 have HW:=hd_ hW
 obtain⟨R0,hR0⟩:∃R0,ah_ ps=R0:=⟨_,rfl⟩
 have hR0l:R0.length≤n:=by rw[←hR0];exact Nat.le_trans (az_ _) (by omega)
 have HR0L:=hd_ hR0l
 have HD0:Hid (peq ps (padd (pmul [] rs) R0)∧ah_ R0=R0∧I [] R0):=hd_ ⟨fun i=>by rw[a8_,pmul,d8_,←hR0,au_];grind,by rw[←hR0];exact a7_ ps,hR0▸hW.start⟩
 have HNO:Hid (Calls Tryz.prog 49 #[.slice a n c] w (b5_ R0 w)):=hd_ (hR0▸d2_ a n c ps w h (by omega) hp)
 have HB:=hd_ (Below.refl w.heap.size w)
 clear h k hp hr hB hW hl1 hl2 hR0 hR0l
 go_enter Tryz.func53,Tryz.ntmps53
 go_wp2_with fail
 refine HNO.out.mono ?_
 rintro e w1 ⟨a2,n2,c2,rfl,h2,bw⟩
 have hn2:n2≤n:=by rw[←h2.len];exact HR0L.out
 replace HB:=bt_ HB bw
 have RR2:=hd_ h2
 clear bw h2 HNO
 go_wp2
 go_loopw [6,7] (fun qv rv wr=>∃(a1:OA_) (n1 c1:Nat) (Q:LR_) (a2:OA_) (n2 c2:Nat) (R:LR_),qv=.slice a1 n1 c1∧rv=.slice a2 n2 c2∧n1≤n∧n2≤n∧Hid (Rw wr a1 n1 c1 Q)∧Hid (Rw wr a2 n2 c2 R)∧Hid (peq ps (padd (pmul Q rs) R)∧ah_ R=R∧I Q R)∧Hid (Below w.heap.size w wr)) (fun _ rv _=>k8_ rv)
 case atStart=>exact⟨none,0,0,[],a2,n2,c2,R0,rfl,rfl,by omega,hn2,hd_ (Rw.nil _),RR2,HD0,HB⟩
 case round=>
  clear RR2 HD0 HB hn2
  obtain⟨a1,n1,c1,Q,a2,n2,c2,R,rfl,rfl,hn1,hn2,HQ,HR,HD,HB⟩:=hrel
  have hbd1:=HR.out.bound
  have hbd3:=HQ.out.bound
  have HRl:=hd_ HR.out.len
  have HQl:=hd_ HQ.out.len
  by_cases hge:m≤n2
  ·have hgi:(m:Int)≤(n2:Int):=by omega
   obtain⟨e2,he2⟩:∃e2,n2 - 1=e2:=⟨_,rfl⟩
   obtain⟨e3,he3⟩:∃e3,m - 1=e3:=⟨_,rfl⟩
   obtain⟨D,hD⟩:∃D,n2 - m=D:=⟨_,rfl⟩
   have hi2:(n2:Int) - 1=(e2:Int):=by omega
   have hi3:(m:Int) - 1=(e3:Int):=by omega
   have hiD:(n2:Int) - (m:Int)=(D:Int):=by omega
   have hw2:IntKind.i64.wrap (e2:Int)=(e2:Int):=by rw[IntKind.wrap_i64];omega
   have hw3:IntKind.i64.wrap (e3:Int)=(e3:Int):=by rw[IntKind.wrap_i64];omega
   have hwD:IntKind.i64.wrap (D:Int)=(D:Int):=by rw[IntKind.wrap_i64];omega
   have hl2:(e2:Int) < (n2:Int):=by omega
   have hl3:(e3:Int) < (m:Int):=by omega
   have hK1:1≤K:=Nat.le_trans (ie_ (rs.getD 0 0)) (HRR.out _ (fq_ (k:=0) (by rw[HRL.out];exact h0)))
   have hcl:=HW.out.top HD.out.2.2 HD.out.2.1 (by rw[HRL.out,HRl.out];exact hge)
   obtain⟨hRq,hQq⟩:=HW.out.room HD.out.2.2
   obtain⟨rt,hrt⟩:∃x,R.getD e2 0=x:=⟨_,rfl⟩
   obtain⟨bt,hbt⟩:∃x,rs.getD e3 0=x:=⟨_,rfl⟩
   obtain⟨cq,hcq⟩:∃x,rt / bt=x:=⟨_,rfl⟩
   have hcq2:cq=R.getD (R.length - 1) 0 / rs.getD (rs.length - 1) 0:=by rw[HRl.out,HRL.out,he2,he3,hrt,hbt,hcq]
   rw[←hcq2] at hcl
   have HSTEP:Hid (∀Q' X R',peq Q' (padd Q (shot D cq))→peq X (pmul (shot D cq) rs)→peq R' (psub R X)→ah_ R'=R'→(peq ps (padd (pmul Q' rs) R')∧ah_ R'=R'∧I Q' R')∧R'.length < n2):=hd_ (fun Q' X R' g1 g2 g3 g4=>by
    have hDl:D=R.length - rs.length:=by rw[HRl.out,HRL.out,hD]
    have i1:=lh_ (Q':=Q') (X:=X) (R':=R') HBN.out (by rw[HRL.out];exact h0) (by rw[HRL.out,HRl.out];exact hge) HD.out.1 hcq2 (hDl▸g1) (hDl▸g2) g3 g4
    have i2:=HW.out.step (Q':=Q') (X:=X) (R':=R') HD.out.2.2 HD.out.2.1 (by rw[HRL.out,HRl.out];exact hge) hcq2 (hDl▸g1) (hDl▸g2) g3 g4
    rw[HRl.out] at i1
    exact⟨⟨i1.1,g4,i2⟩,i1.2⟩)
   obtain⟨bb,off,rfl,a3,n3,c3,b3,m3,d3,hea,hA,hDn⟩:=HR.out.at (j:=e2) (by omega)
   obtain⟨bc,off2,hbe,a4,n4,c4,b4,m4,d4,heb,hA2,hD2⟩:=(HM.out.later HB.out).at (j:=e3) (by omega)
   have hlr:=hRq _ (fq_ (L:=R) (k:=e2) (by rw[HRl.out];omega))
   have hlb:=HRR.out _ (fq_ (L:=rs) (k:=e3) (by rw[HRL.out];omega))
   rw[hrt] at hea hA hDn hlr
   rw[hbt] at heb hA2 hD2 hlb
   have hF1:=Rt.of hA hDn (N:=15728640000) (by rw[←hA.len];exact Nat.le_trans (a5_ _) (by omega)) (by rw[←hDn.len];exact Nat.le_trans (a4_ _) (by omega))
   have hF2:=Rt.of hA2 hD2 (N:=15728640000) (by rw[←hA2.len];exact Nat.le_trans (a5_ _) (by omega)) (by rw[←hD2.len];exact Nat.le_trans (a4_ _) (by omega))
   have HEA:=hd_ hea
   have HEB:=hd_ heb
   subst hbe
   have HQU:∀w':World,Below wr.heap.size wr w'→Calls Tryz.prog 54 #[.agg #[.bool (zneg rt.num),.slice a3 n3 c3,.slice b3 m3 d3],.agg #[.bool (zneg bt.num),.slice a4 n4 c4,.slice b4 m4 d4]] w' (LstQ cq w'):=fun w' h9=>hcq▸hf_ _ _ rt bt w' (by obtain⟨x1,x2,x3,x4,x5,x6,y0,y1,y2,y3⟩:=hF1;exact⟨x1,x2,x3,x4,x5,x6,y0,y1.later h9,y2.later h9,y3⟩) (by obtain⟨x1,x2,x3,x4,x5,x6,y0,y1,y2,y3⟩:=hF2;exact⟨x1,x2,x3,x4,x5,x6,y0,y1.later h9,y2.later h9,y3⟩)
   have HCL:=hd_ hcl
   have HQq:=hd_ hQq
   have HRq:=hd_ hRq
   have HDe:=hd_ hD
   clear hA hDn hA2 hD2 hF1 hF2 hea heb hlr hlb hrt hbt hcq hcq2 hcl hRq hQq he2 he3 hD HD
   go_upto_region 4 with fail
   go_cut [8] from 17 to 29 (fun cv wx=>∃(g:Nat) (a5:OA_) (n5 c5:Nat) (b5:OA_) (m5 d5:Nat),cv=.pointer (some ⟨g,0,none⟩)∧Hid (wx.heap[g]? = some (.cells #[.bool (zneg cq.num),.slice a5 n5 c5,.slice b5 m5 d5] 27 (0,0)))∧Hid (Wd wx a5 n5 c5 (dg cq.num.natAbs))∧Hid (Wd wx b5 m5 d5 (dg cq.den))∧Hid (Below wr.heap.size wr wx))
   case first=>
    go_wp2
    have qS:=my_ HEA.out HEB.out (dw_ wr)
    have qA:=fun o=>my_ HEA.out HEB.out ((aa_ wr o).drew:Below wr.heap.size wr (wr.alloc o).drew)
    have G1:Below wr.heap.size wr wr.drew:=(Below.refl _ _).drew
    have G2:∀o,Below wr.heap.size wr (wr.alloc o).drew:=fun o=>(aa_ wr o).drew
    go_region_held3 (fun w'=>w'.cell? ⟨bb,off+e2 * 3,none⟩=some (.bool (zneg rt.num))∧w'.cell? ⟨bb,off+e2 * 3+1,none⟩=some (.slice a3 n3 c3)∧w'.cell? ⟨bb,off+e2 * 3+2,none⟩=some (.slice b3 m3 d3)∧w'.cell? ⟨bc,off2+e3 * 3,none⟩=some (.bool (zneg bt.num))∧w'.cell? ⟨bc,off2+e3 * 3+1,none⟩=some (.slice a4 n4 c4)∧w'.cell? ⟨bc,off2+e3 * 3+2,none⟩=some (.slice b4 m4 d4)) (first | with_reducible exact qS | with_reducible exact qA _ | with_reducible exact qC)
     (first
     | (go_at_call 54;(first
       | (refine (HQU _ G1).mono ?_;rintro e w4 ⟨a5,n5,c5,b5,m5,d5,rfl,h5,g5,bw⟩;have BB:=hd_ (ab_ G1 bw);have A5:=hd_ h5;have D5:=hd_ g5;clear h5 g5 bw;unfold frV;clear qS qA;have qS:=my_ HEA.out HEB.out BB.out;have qA:=fun o=>my_ HEA.out HEB.out (ab_ BB.out (aa_ w4 o)))
       | (refine (HQU _ (G2 _)).mono ?_;rintro e w4 ⟨a5,n5,c5,b5,m5,d5,rfl,h5,g5,bw⟩;have BB:=hd_ (ab_ (G2 _) bw);have Z4:=hd_ (ac_ (w:=(wr.alloc (.cells #[.bool false,.slice none 0 0,.slice none 0 0] 27)).drew) (ai_ wr #[.bool false,.slice none 0 0,.slice none 0 0] 27) bw);have A5:=hd_ h5;have D5:=hd_ g5;clear h5 g5 bw;unfold frV;obtain⟨z0,z1,z2⟩:=ao_ Z4.out;have f0:=ae_ Z4.out 0;have f1:=ae_ Z4.out 1;have f2:=ae_ Z4.out 2;have qC:=my_ HEA.out HEB.out (as_ BB.out (Nat.le_refl _) (.bool (zneg cq.num)) (.slice a5 n5 c5) (.slice b5 m5 d5));clear qS qA;have qS:=my_ HEA.out HEB.out BB.out;have qA:=fun o=>my_ HEA.out HEB.out (ab_ BB.out (aa_ w4 o))))))
    all_goals (
     go_wp2
     go_meet
     (first
       | exact⟨wr.heap.size,a5,n5,c5,b5,m5,d5,rfl,hd_ (be_ Z4.out (.bool (zneg cq.num)) (.slice a5 n5 c5) (.slice b5 m5 d5)),hd_ (A5.out.stored3 Z4.out (zneg cq.num) a5 n5 c5 (.slice b5 m5 d5)),hd_ (D5.out.stored3 Z4.out (zneg cq.num) a5 n5 c5 (.slice b5 m5 d5)),hd_ (as_ BB.out (Nat.le_refl _) (.bool (zneg cq.num)) (.slice a5 n5 c5) (.slice b5 m5 d5))⟩
       | exact⟨w4.heap.size,a5,n5,c5,b5,m5,d5,rfl,hd_ (ai_ w4 _ 27),hd_ (A5.out.later (aa_ w4 _)),hd_ (D5.out.later (aa_ w4 _)),hd_ (ab_ BB.out (aa_ w4 _))⟩))
   case rest=>
    obtain⟨g,a5,n5,c5,b5,m5,d5,rfl,CB,A5,D5,HBc⟩:=hcut
    replace HB:=hd_ (ab_ HB.out HBc.out)
    replace HQ:=hd_ (HQ.out.later HBc.out)
    replace HR:=hd_ (HR.out.later HBc.out)
    clear HBc HQU HEA HEB hi2 hi3 hw2 hw3 hl2 hl3
    have hDn:D+1≤n:=by have:=HDe.out;omega
    go_upto_region 5 with fail
    go_cut [9] from 30 to 38 (fun tv wx=>∃(a7:OA_) (c7:Nat),tv=.slice a7 (D+1) c7∧Hid (Rw wx a7 (D+1) c7 (shot D cq))∧Hid (Below wc.heap.size wc wx))
    case first=>
     have HZR:∀w':World,Calls Tryz.prog 98 #[.int .i64 (D:Int)] w' (LstRow 27 (List.replicate D 0) w'):=fun w'=>by
      have h9:=ni_ (D:Int) w'
      rwa [show rcut (D:Int)=D by unfold rcut;omega] at h9
     have HLZ:(List.replicate D (0:Rat)).length≤1000000:=by rw[List.length_replicate];omega
     have HSHL:Hid ((shot D cq).length=D+1):=hd_ (i5_ D cq)
     have HSH:Hid (List.replicate D (0:Rat) ++ [cq]=shot D cq):=hd_ rfl
     obtain⟨i0,hi,hz0,hz1,hz2⟩:=info_parts d4_
     obtain⟨x0,x1,x2⟩:=ao_ CB.out
     go_wp2
     have b0:Below wc.heap.size wc wc.drew:=(Below.refl _ _).drew
     have BC:=hd_ b0
     have AW:=hd_ A5.out
     have DW:=hd_ D5.out
     replace CB:=bl_ CB b0
     replace A5:=A5.l_ b0
     replace D5:=D5.l_ b0
     clear x0 x1 x2 b0
     obtain⟨x0,x1,x2⟩:=ao_ CB.out
     go_region_law (first
      | (refine ew_ rfl _ _ 22 rfl wc.heap.size 27 i0 Tryz.underlying22 hi hz0 hz1 hz2 _ _ rfl HOa.out _ cq a5 n5 c5 b5 m5 d5 rfl (gm_ _ _ _ _ _ _ _ _ _) AA.out DA.out HLZ (by rw[al_];omega) ?_;intro mv6 w6 hrow hgrow hbase hcl;have BX:=hd_ (HBa.out.grown hgrow (by rw[al_];omega) hbase))
      | (refine ew_ rfl _ _ 22 rfl wc.heap.size 27 i0 Tryz.underlying22 hi hz0 hz1 hz2 _ _ rfl HOb.out _ cq a5 n5 c5 b5 m5 d5 rfl HNW.out AB.out DB.out HLZ hsz4 ?_;intro mv6 w6 hrow hgrow hbase hcl;have BX:=hd_ (HBB.out.grown hgrow hsz4 hbase))
      | (go_simp;go_at_call 98;refine (HZR _).mono ?_;rintro e w4 ⟨v4,rfl,hO,bw⟩;(first
        | (have bw1:Below wc.drew.heap.size wc.drew w4:=(by with_reducible exact bw);have HBB:=hd_ (ab_ BC.out bw1);have hsz4:wc.heap.size≤w4.heap.size:=HBB.out.size;have ba:=aa_ w4 (.cells #[.bool (zneg cq.num),.slice a5 n5 c5,.slice b5 m5 d5] 27);have HOa:=hd_ ((in_ hO (b':=wc.heap.size) BC.out.size).later ba);have AA:=hd_ ((AW.out.later HBB.out).later ba);have DA:=hd_ ((DW.out.later HBB.out).later ba);have HBa:=hd_ (ab_ HBB.out ba);replace CB:=bl_ CB bw1;clear x0 x1 x2 hO bw bw1 ba;obtain⟨x0,x1,x2⟩:=ao_ CB.out)
        | (have bq:Below wc.heap.size wc (wc.alloc (.cells #[.bool (zneg cq.num),.slice a5 n5 c5,.slice b5 m5 d5] 27)).drew:=(aa_ wc (.cells #[.bool (zneg cq.num),.slice a5 n5 c5,.slice b5 m5 d5] 27)).drew;have bw1:Below (wc.alloc (.cells #[.bool (zneg cq.num),.slice a5 n5 c5,.slice b5 m5 d5] 27)).drew.heap.size (wc.alloc (.cells #[.bool (zneg cq.num),.slice a5 n5 c5,.slice b5 m5 d5] 27)).drew w4:=(by with_reducible exact bw);have HBB:=hd_ (ab_ bq bw1);have hsz4:wc.heap.size≤w4.heap.size:=HBB.out.size;have HOb:=hd_ (in_ hO (b':=wc.heap.size) bq.size);have AB:=hd_ (AW.out.later HBB.out);have DB:=hd_ (DW.out.later HBB.out);have HNW:=hd_ (fun j u hu=>cell_later (w:=(wc.alloc (.cells #[.bool (zneg cq.num),.slice a5 n5 c5,.slice b5 m5 d5] 27)).drew) bw1 (gm_ wc cq a5 n5 c5 b5 m5 d5 27 j u hu));clear x0 x1 x2 hO bw bw1 bq))))
     all_goals (
      have hrow2:Row w6 wc.heap.size 27 mv6 (shot D cq):=hrow
      obtain⟨a7,c7,rfl,h7⟩:=hrow2.out
      have HF:=hd_ h7
      clear hrow hgrow hbase hcl hrow2 h7
      rw[HSHL.out] at HF ⊢
      go_wp2
      go_meet
      exact⟨a7,c7,rfl,HF,BX⟩)
    case rest=>
     obtain⟨a7,c7,rfl,HT,HBc⟩:=hcut
     replace HB:=hd_ (ab_ HB.out HBc.out)
     replace HQ:=hd_ (HQ.out.later HBc.out)
     replace HR:=hd_ (HR.out.later HBc.out)
     clear HBc CB A5 D5 hiD hwD
     have hKp:1≤K:=hK1
     have HSQ:Hid (∀q∈shot D cq,qlen q≤2000000000):=hd_ (fun q hq=>by
      have h9:=HCL.out
      rcases List.mem_append.1 hq with h8 | h8
      ·rw[(List.mem_replicate.1 h8).2,cw_];omega
      ·rw[List.mem_singleton.1 h8];omega)
     obtain⟨Q2,hQ2⟩:∃x,ah_ (padd Q (shot D cq))=x:=⟨_,rfl⟩
     obtain⟨X2,hX2⟩:∃x,ah_ (pmul (shot D cq) rs)=x:=⟨_,rfl⟩
     obtain⟨R2,hR2⟩:∃x,ah_ (psub R X2)=x:=⟨_,rfl⟩
     have HXQ:Hid (∀q∈X2,qlen q≤2000000000):=hd_ (by
      rw[←hX2]
      refine co_ fun i=>?_
      rw[fa_]
      exact Nat.le_trans (jk_ (Nat.le_refl (qlen cq)) HRR.out hKp i) (by have:=HCL.out;omega))
     have HX2:Hid (X2.length≤500):=hd_ (by
      rw[←hX2]
      refine Nat.le_trans (az_ _) (Nat.le_trans (b7_ _ _) ?_)
      rw[i5_,HRL.out];omega)
     have HQ2:Hid (Q2.length≤n):=hd_ (by
      rw[←hQ2]
      refine Nat.le_trans (az_ _) (Nat.le_trans (fz_ _ _) ?_)
      rw[i5_,HQl.out];omega)
     obtain⟨hst1,hst2⟩:=HSTEP.out Q2 X2 R2 (by rw[←hQ2];exact au_ _) (by rw[←hX2];exact au_ _) (by rw[←hR2];exact au_ _) (by rw[←hR2];exact a7_ _)
     have HD2:=hd_ hst1
     have HRL2:=hd_ hst2
     have HADD:=fun (w':World) (h8:Rw w' a1 n1 c1 Q) (h9:Rw w' a7 (D+1) c7 (shot D cq))=>(hQ2▸qs_ a1 n1 c1 Q a7 (D+1) c7 (shot D cq) w' h8 h9 (by omega) (by omega) (fun q hq=>Nat.le_trans (HQq.out q hq) (by omega)) (fun q hq=>Nat.le_trans (HSQ.out q hq) (by decide)):Calls Tryz.prog 84 #[.slice a1 n1 c1,.slice a7 (D+1) c7] w' (b5_ Q2 w'))
     have HMUL:=fun (w':World) (h8:Rw w' a7 (D+1) c7 (shot D cq)) (h9:Rw w' (some ⟨bc,off2,none⟩) m d rs)=>(hX2▸ju_ a7 (D+1) c7 (shot D cq) _ m d rs w' h8 h9 (by omega) (by omega) (fun q hq=>Nat.le_trans (HSQ.out q hq) (by decide)) (fun q hq=>Nat.le_trans (HRR.out q hq) (by have:=HCL.out;omega)) (fun k i=>by
      unfold e2_
      rw[e4_]
      by_cases hi:i=D
      ·rw[if_pos hi]
       have h7:=cv_ hKp HRR.out (k - i)
       have h6:=ci_ cq (co rs (k - i))
       have:=HCL.out;omega
      ·rw[if_neg hi,Rat.zero_mul,cw_];omega) (fun k i=>Nat.le_trans (qc_ (Nat.le_refl (qlen cq)) HRR.out hKp k i) (by have:=HCL.out;omega)):Calls Tryz.prog 80 #[.slice a7 (D+1) c7,.slice (some ⟨bc,off2,none⟩) m d] w' (b5_ X2 w'))
     have HSUB:=fun (w':World) (a9:OA_) (n9 c9:Nat) (h7:n9≤500) (h8:Rw w' (some ⟨bb,off,none⟩) n2 c2 R) (h9:Rw w' a9 n9 c9 X2)=>(hR2▸rc_ _ n2 c2 R a9 n9 c9 X2 w' h8 h9 (by omega) h7 (fun q hq=>Nat.le_trans (HRq.out q hq) (by omega)) HXQ.out:Calls Tryz.prog 79 #[.slice (some ⟨bb,off,none⟩) n2 c2,.slice a9 n9 c9] w' (b5_ R2 w'))
     clear hQ2 hX2 hR2 hst1 hst2 HSTEP HSQ HXQ HQq HRq HQl HCL HDe hKp hK1
     go_wp2_with fail
     refine (HADD _ HQ.out HT.out).mono ?_
     rintro e w5 ⟨a8,n8,c8,rfl,h8,bw⟩
     have hn8:n8≤n:=by rw[←h8.len];exact HQ2.out
     replace HB:=bt_ HB bw
     replace HR:=HR.l_ bw
     replace HT:=HT.l_ bw
     have Q8:=hd_ h8
     clear h8 bw HQ HADD
     go_wp2_with fail
     refine (HMUL _ HT.out (HM.out.later HB.out)).mono ?_
     rintro e w6 ⟨a9,n9,c9,rfl,h9,bw⟩
     have hn9:n9≤500:=by rw[←h9.len];exact HX2.out
     replace HB:=bt_ HB bw
     replace HR:=HR.l_ bw
     replace Q8:=Q8.l_ bw
     have X9:=hd_ h9
     clear h9 bw HT HMUL
     go_wp2_with fail
     refine (HSUB _ a9 n9 c9 hn9 HR.out X9.out).mono ?_
     rintro e w7 ⟨a10,n10,c10,rfl,h10,bw⟩
     have hn10:n10 < n2:=by rw[←h10.len];exact HRL2.out
     replace HB:=bt_ HB bw
     replace Q8:=Q8.l_ bw
     have R10:=hd_ h10
     clear h10 bw HR X9 HSUB
     go_wp2
     go_roundw
     case rel=>exact⟨a8,n8,c8,Q2,a10,n10,c10,R2,rfl,rfl,hn8,by omega,Q8,R10,HD2,HB⟩
     case measure=>simp[k8_];omega
  ·have hgi:¬(m:Int)≤(n2:Int):=by omega
   have hRl:=HRl.out
   have hRL:=HRL.out
   have g1:isDiv ps rs (ah_ Q) R:=⟨fun i=>by rw[HD.out.1 i,a8_,a8_,(a1_ (au_ Q) (peq.refl rs)) i],by rw[a0_ HD.out.2.1,a0_ HBN.out];omega⟩
   have hQq:=(HW.out.room HD.out.2.2).2
   have HNO:=fun (w':World) (h8:Rw w' a1 n1 c1 Q)=>d2_ a1 n1 c1 Q w' h8 (by omega) (fun q hq=>Nat.le_trans (hQq q hq) (by omega))
   have G0:=hd_ HD.out.2.1
   have G1:=hd_ g1
   have G2:Hid (R.length≤n):=hd_ (by omega)
   have G3:=hd_ HD.out.2.2
   clear g1 hQq hRl hRL HD
   go_wp2_with fail
   refine (HNO _ HQ.out).mono ?_
   rintro e w4 ⟨a8,n8,c8,rfl,h8,bw⟩
   have hl8:(ah_ Q).length≤n:=Nat.le_trans (az_ _) (by rw[HQl.out];exact hn1)
   have HL8:=hd_ hl8
   replace HB:=bt_ HB bw
   replace HR:=HR.l_ bw
   have Q8:=hd_ h8
   clear h8 bw HQ HNO hl8
   go_wp2
   go_ret2
   exact⟨a8,n8,c8,ah_ Q,a2,n2,c2,R,rfl,Q8.out,HR.out,G1.out,a7_ _,G0.out,G2.out,⟨Q,rfl,G3.out⟩,HL8.out,HB.out⟩
theorem gcd_done{A B x:List Rat}{c:Rat}(h:∀g,common x [] g→common A B g)(hx:ah_ x=x)(h0:0 < x.length)(hc:c=1 / x.getD (x.length - 1) 0):isGcd A B (ah_ (ag_ c x)):=by
 have ht:=gf_ hx h0
 have hcx:c * x.getD (x.length - 1) 0=1:=by rw[hc];exact Rat.div_mul_cancel ht
 have hc0:c≠0:=fun e=>by rw[e,Rat.zero_mul] at hcx;exact absurd hcx (by decide)
 refine ⟨((h _ (common.none x)).scale hc0).of (peq.refl _) (peq.refl _) (au_ _).symm,fun n hn=>?_⟩
 have h1:plen (ah_ (ag_ c x))=x.length:=by rw[am_ (au_ _),bm_ hc0,a0_ hx]
 have h2:n=x.length - 1:=by omega
 rw[fa_,aj_,h2]
 exact hcx
theorem q4_(a:OA_)(n c:Nat)(ps:LR_)(b:OA_)(m d:Nat)(rs:LR_)(T E:Nat)(J:List Rat→List Rat→Prop)(w:World)(h:Rw w a n c ps)(k:Rw w b m d rs)(hn:n≤100)(hm:m≤100)(hp:∀q∈ps,qlen q≤15728640000)(hr:∀q∈rs,qlen q≤15728640000)
 (hW:GcdWay ps rs T E J) (hT:T≤2000000000):Calls Tryz.prog 52 #[.slice a n c,.slice b m d] w (p3_ ps rs E w):=by
 obtain⟨x0,hx0⟩:∃x,ah_ ps=x:=⟨_,rfl⟩
 obtain⟨y0,hy0⟩:∃x,ah_ rs=x:=⟨_,rfl⟩
 have hxl:x0.length≤n:=by rw[←hx0,←h.len];exact az_ _
 have hyl:y0.length≤m:=by rw[←hy0,←k.len];exact az_ _
 have HXL:=hd_ hxl
 have HYL:=hd_ hyl
 have HG0:Hid ((∀g,common x0 y0 g→common ps rs g)∧ah_ x0=x0∧ah_ y0=y0∧J x0 y0):=hd_ ⟨fun g hg=>hg.of (hx0▸au_ ps) (hy0▸au_ rs) (peq.refl g),by rw[←hx0];exact a7_ _,by rw[←hy0];exact a7_ _,by rw[←hx0,←hy0];exact hW.start⟩
 have HNX:Hid (Calls Tryz.prog 49 #[.slice a n c] w (b5_ x0 w)):=hd_ (hx0▸d2_ a n c ps w h (by omega) hp)
 have HNY:=fun (w':World) (h9:Rw w' b m d rs)=>(hy0▸d2_ b m d rs w' h9 (by omega) hr:Calls Tryz.prog 49 #[.slice b m d] w' (b5_ y0 w'))
 have HB:=hd_ (Below.refl w.heap.size w)
 have HM:=hd_ k
 have HW:=hd_ hW
 clear h k hp hr hW hx0 hy0 hxl hyl
 go_enter Tryz.func52,Tryz.ntmps52
 go_wp2_with fail
 refine HNX.out.mono ?_
 rintro e w1 ⟨a1,n1,c1,rfl,h1,bw⟩
 have hn1:n1≤100:=by rw[←h1.len];exact Nat.le_trans HXL.out hn
 replace HB:=bt_ HB bw
 have RX:=hd_ h1
 clear bw h1 HNX
 go_wp2_with fail
 refine (HNY _ (HM.out.later HB.out)).mono ?_
 rintro e w2 ⟨a2,n2,c2,rfl,h2,bw⟩
 have hn2:n2≤100:=by rw[←h2.len];exact Nat.le_trans HYL.out hm
 replace HB:=bt_ HB bw
 replace RX:=RX.l_ bw
 have RY:=hd_ h2
 clear bw h2 HNY HXL HYL
 go_wp2
 go_loopw [5,6] (fun xv yv wr=>∃(a1:OA_) (n1 c1:Nat) (x:LR_) (a2:OA_) (n2 c2:Nat) (y:LR_),xv=.slice a1 n1 c1∧yv=.slice a2 n2 c2∧n1≤100∧n2≤100∧Hid (Rw wr a1 n1 c1 x)∧Hid (Rw wr a2 n2 c2 y)∧Hid ((∀g,common x y g→common ps rs g)∧ah_ x=x∧ah_ y=y∧J x y)∧Hid (Below w.heap.size w wr)) (fun _ yv _=>k8_ yv)
 case atStart=>exact⟨a1,n1,c1,x0,a2,n2,c2,y0,rfl,rfl,hn1,hn2,RX,RY,HG0,HB⟩
 case round=>
  clear RX RY HG0 HB hn1 hn2
  obtain⟨a1,n1,c1,x,a2,n2,c2,y,rfl,rfl,hn1,hn2,RX,RY,HG,HB⟩:=hrel
  have hbx:=RX.out.bound
  have hby:=RY.out.bound
  have hxl:=RX.out.len
  have hyl:=RY.out.len
  have HXl:=hd_ hxl
  have HYl:=hd_ hyl
  by_cases hy0:0 < n2
  ·have hyi:(0:Int) < (n2:Int):=by omega
   obtain⟨K,I,g1,g2,g3⟩:=HW.out.div HG.out.2.2.2 HG.out.2.1 HG.out.2.2.1 (by rw[hyl];exact hy0)
   have HDV:=fun (w':World) (h8:Rw w' a1 n1 c1 x) (h9:Rw w' a2 n2 c2 y)=>h1_ a1 n1 c1 x a2 n2 c2 y K T I w' h8 h9 (by omega) (by omega) (fun q hq=>Nat.le_trans (g2 q hq) (by omega)) g1 HG.out.2.2.1 hy0 g3 hT
   clear g1 g2 g3 hxl hyl
   go_wp2_with fail
   refine (HDV _ RX.out RY.out).mono ?_
   rintro e w4 ⟨a3,n3,c3,q,a4,n4,c4,r,rfl,h3,h4,d1,d2,d3,d4,d5,d6,bw⟩
   have hn4:n4 < n2:=by
    have:=d1.2
    rw[a0_ d3,a0_ HG.out.2.2.1] at this
    rw[←h4.len,←HYl.out];exact this
   replace HB:=bt_ HB bw
   replace RY:=RY.l_ bw
   have R4:=hd_ h4
   have HG4:Hid ((∀g,common y r g→common ps rs g)∧ah_ y=y∧ah_ r=r∧J y r):=hd_ ⟨fun g hg=>HG.out.1 g (common.step d1.1 hg),HG.out.2.2.1,d3,HW.out.step HG.out.2.2.2 HG.out.2.1 HG.out.2.2.1 (by rw[HYl.out];exact hy0) d1 d3⟩
   clear bw h3 h4 d1 d2 d3 d4 d5 d6 RX HDV HG HXl HYl
   go_wp2
   go_roundw
   case rel=>exact⟨a2,n2,c2,y,a4,n4,c4,r,rfl,rfl,hn2,by omega,RY,R4,HG4,HB⟩
   case measure=>simp[k8_];omega
  ·have hyi:¬(0:Int) < (n2:Int):=by omega
   have hy1:y=[]:=List.eq_nil_of_length_eq_zero (by rw[hyl];omega)
   subst hy1
   by_cases hx0:n1=0
   ·have hx1:x=[]:=List.eq_nil_of_length_eq_zero (by rw[hxl];exact hx0)
    subst hx1
    have hxe:((n1:Int) == 0)=true:=by simp[hx0]
    have G0:Hid (isGcd ps rs []):=hd_ ⟨HG.out.1 _ (common.none _),fun n hn=>by rw[ia_] at hn;omega⟩
    have HF:=hd_ RX.out
    clear hxl hyl HXl HYl HG RX RY hx0
    go_wp2
    go_ret
    exact⟨a1,n1,c1,[],rfl,HF.out,G0.out,rfl,fun q hq=>by simp at hq,⟨1,by decide,fi_ E,fun i=>⟨0,rfl,Nat.zero_le _⟩⟩,HB.out⟩
   ·have hxe:((n1:Int) == 0)=false:=by simp[hx0]
    obtain⟨e2,he2⟩:∃e2,n1 - 1=e2:=⟨_,rfl⟩
    have hi2:(n1:Int) - 1=(e2:Int):=by omega
    have hw2:IntKind.i64.wrap (e2:Int)=(e2:Int):=by rw[IntKind.wrap_i64];omega
    have hl2:(e2:Int) < (n1:Int):=by omega
    obtain⟨rt,hrt⟩:∃z,x.getD e2 0=z:=⟨_,rfl⟩
    obtain⟨z1,hz1⟩:∃z:Rat,((1:Int):Rat)=z:=⟨_,rfl⟩
    have hz11:z1=1:=by rw[←hz1];rfl
    obtain⟨cq,hcq⟩:∃z,z1 / rt=z:=⟨_,rfl⟩
    have hcq2:cq=1 / x.getD (x.length - 1) 0:=by rw[hxl,he2,hrt,←hz11,hcq]
    obtain⟨g1,g2,o3,o4⟩:=HW.out.over HG.out.2.2.2 HG.out.2.1 (by rw[hxl];omega)
    rw[←hcq2] at g1 o3 o4
    have o1:=gcd_done HG.out.1 HG.out.2.1 (by rw[hxl];omega) hcq2
    have HI1:∀w':World,Calls Tryz.prog 15 #[.int .i64 1] w' (LstQ z1 w'):=fun w'=>hz1▸dg_ 1 w' g0_
    have hlz:qlen z1≤2:=hz1▸b4_ (by decide)
    have HSC:=fun (w':World) (v':Value) (h8:Rt w' v' cq 2000000000) (h9:Rw w' a1 n1 c1 x)=>g7_ v' cq a1 n1 c1 x w' h8 h9 (by omega) (fun q hq=>Nat.le_trans (g2 q hq) hT)
    obtain⟨bb,off,rfl,a3,n3,c3,b3,m3,d3,hea,hA,hDn⟩:=RX.out.at (j:=e2) (by omega)
    have hlr:=g2 _ (fq_ (L:=x) (k:=e2) (by rw[hxl];omega))
    rw[hrt] at hea hA hDn hlr
    have hn3:n3≤15728640000:=by rw[←hA.len];exact Nat.le_trans (a5_ _) (by omega)
    have hm3:m3≤15728640000:=by rw[←hDn.len];exact Nat.le_trans (a4_ _) (by omega)
    have hlc:qlen cq≤2000000000:=by omega
    have ECQ:=hd_ hcq
    have HLC:=hd_ hlc
    have HLZ:=hd_ hlz
    have QA:=hd_ hA
    have QD:=hd_ hDn
    have HEA:=hd_ hea
    have O1:=hd_ o1
    have O3:=hd_ o3
    have O4:=hd_ o4
    have BR:=hd_ (Below.refl wr.heap.size wr)
    clear hxl hyl HXl HYl HG RY hx0 he2 g1 g2 hrt hz1 hz11 hcq hcq2 o1 o3 o4 hlz hA hDn hea hlr hlc
    obtain⟨e00,e10,e20⟩:=HEA.out
    go_wp2
    have b0:Below wr.heap.size wr wr.drew:=(Below.refl _ _).drew
    replace BR:=bt_ BR b0
    clear e00 e10 e20 b0
    obtain⟨e00,e10,e20⟩:=an_ HEA.out BR.out
    go_region_law (first
     | (go_simp;go_at_call 15;refine (HI1 _).mono ?_;rintro e w4 ⟨a4,n4,c4,b4,m4,d4,rfl,h4,g4,bw⟩;clear e00 e10 e20;replace BR:=bt_ BR bw;have hn4:n4≤2:=Nat.le_trans (Nat.le_of_eq h4.len.symm) (Nat.le_trans (a5_ _) HLZ.out);have hm4:m4≤2:=Nat.le_trans (Nat.le_of_eq g4.len.symm) (Nat.le_trans (a4_ _) HLZ.out);have A4:=hd_ h4;have D4:=hd_ g4;clear bw h4 g4;unfold frV;obtain⟨e00,e10,e20⟩:=an_ HEA.out BR.out)
     | (go_simp;go_at_call 54;refine (hf_ _ _ z1 rt _ (Rt.of A4.out D4.out (by omega) (by omega)) (Rt.of (QA.out.later BR.out) (QD.out.later BR.out) hn3 hm3)).mono ?_;rintro e w5 ⟨a5,n5,c5,b5,m5,d5,rfl,h5,g5,bw⟩;rw[ECQ.out] at h5 g5 ⊢;clear e00 e10 e20;replace BR:=bt_ BR bw;have hn5:n5≤2000000000:=Nat.le_trans (Nat.le_of_eq h5.len.symm) (Nat.le_trans (a5_ _) HLC.out);have hm5:m5≤2000000000:=Nat.le_trans (Nat.le_of_eq g5.len.symm) (Nat.le_trans (a4_ _) HLC.out);have A5:=hd_ h5;have D5:=hd_ g5;clear bw h5 g5 A4 D4)
     | (go_simp;go_at_call 55;refine (HSC _ _ (Rt.of A5.out D5.out hn5 hm5) (RX.out.later BR.out)).mono ?_;rintro e w6 ⟨a6,n6,c6,rfl,h6,bw⟩;replace BR:=bt_ BR bw;have R6:=hd_ h6;clear bw h6 A5 D5))
    all_goals (
     go_wp2
     go_ret
     exact⟨a6,n6,c6,_,rfl,R6.out,O1.out,a7_ _,O3.out,O4.out,ab_ HB.out BR.out⟩)

theorem Rw.lit2(w:World)(e:TypeId){q p:Rat}{a b a' b':Option Addr}{n c m d n' c' m' d':Nat}(h1:Wd w a n c (dg q.num.natAbs))(h2:Wd w b m d (dg q.den))(h3:Wd w a' n' c' (dg p.num.natAbs))(h4:Wd w b' m' d' (dg p.den)) :
 Rw (w.alloc (.cells #[.bool (zneg q.num),.slice a n c,.slice b m d,.bool (zneg p.num),.slice a' n' c',.slice b' m' d'] e)) (some ⟨w.heap.size,0,none⟩) 2 2 [q,p]:=by
 have hb:Below w.heap.size w (w.alloc (.cells #[.bool (zneg q.num),.slice a n c,.slice b m d,.bool (zneg p.num),.slice a' n' c',.slice b' m' d'] e)):=aa_ _ _
 have hx:=ai_ w #[.bool (zneg q.num),.slice a n c,.slice b m d,.bool (zneg p.num),.slice a' n' c',.slice b' m' d'] e
 refine ⟨[rx q a n c b m d,rx p a' n' c' b' m' d'],⟨rfl,Nat.le_refl _,by omega,fun h=>(by cases h),fun x hx=>?_,.inr ⟨w.heap.size,0,rfl,fun j hj=>?_⟩⟩,by simp[rx_q],fun x hx=>?_⟩
 ·simp only[List.mem_cons,List.not_mem_nil,or_false] at hx
  rcases hx with rfl | rfl
  ·exact⟨h1.later hb,h2.later hb⟩
  ·exact⟨h3.later hb,h4.later hb⟩
 ·match j,hj with
  | 0,_=>exact⟨ad_ hx 0,ad_ hx 1,ad_ hx 2⟩
  | 1,_=>exact⟨ad_ hx 3,ad_ hx 4,ad_ hx 5⟩
 ·simp only[List.mem_cons,List.not_mem_nil,or_false] at hx
  rcases hx with rfl | rfl
  ·exact dr_ ..
  ·exact dr_ ..
theorem Rw.lit3(w:World)(e:TypeId){q p r:Rat}{a b a' b' a2 b2:Option Addr}{n c m d n' c' m' d' n2 c2 m2 d2:Nat}(h1:Wd w a n c (dg q.num.natAbs))(h2:Wd w b m d (dg q.den))(h3:Wd w a' n' c' (dg p.num.natAbs))(h4:Wd w b' m' d' (dg p.den))(h5:Wd w a2 n2 c2 (dg r.num.natAbs))(h6:Wd w b2 m2 d2 (dg r.den)) :
 Rw (w.alloc (.cells #[.bool (zneg q.num),.slice a n c,.slice b m d,.bool (zneg p.num),.slice a' n' c',.slice b' m' d',.bool (zneg r.num),.slice a2 n2 c2,.slice b2 m2 d2] e)) (some ⟨w.heap.size,0,none⟩) 3 3 [q,p,r]:=by
 have hb:Below w.heap.size w (w.alloc (.cells #[.bool (zneg q.num),.slice a n c,.slice b m d,.bool (zneg p.num),.slice a' n' c',.slice b' m' d',.bool (zneg r.num),.slice a2 n2 c2,.slice b2 m2 d2] e)):=aa_ _ _
 have hx:=ai_ w #[.bool (zneg q.num),.slice a n c,.slice b m d,.bool (zneg p.num),.slice a' n' c',.slice b' m' d',.bool (zneg r.num),.slice a2 n2 c2,.slice b2 m2 d2] e
 refine ⟨[rx q a n c b m d,rx p a' n' c' b' m' d',rx r a2 n2 c2 b2 m2 d2],⟨rfl,Nat.le_refl _,by omega,fun h=>(by cases h),fun x hx=>?_,.inr ⟨w.heap.size,0,rfl,fun j hj=>?_⟩⟩,by simp[rx_q],fun x hx=>?_⟩
 ·simp only[List.mem_cons,List.not_mem_nil,or_false] at hx
  rcases hx with rfl | rfl | rfl
  ·exact⟨h1.later hb,h2.later hb⟩
  ·exact⟨h3.later hb,h4.later hb⟩
  ·exact⟨h5.later hb,h6.later hb⟩
 ·match j,hj with
  | 0,_=>exact⟨ad_ hx 0,ad_ hx 1,ad_ hx 2⟩
  | 1,_=>exact⟨ad_ hx 3,ad_ hx 4,ad_ hx 5⟩
  | 2,_=>exact⟨ad_ hx 6,ad_ hx 7,ad_ hx 8⟩
 ·simp only[List.mem_cons,List.not_mem_nil,or_false] at hx
  rcases hx with rfl | rfl | rfl
  ·exact dr_ ..
  ·exact dr_ ..
  ·exact dr_ ..
theorem q8_(w:World):Calls Tryz.prog 51 #[] w (b5_ [1] w):=by
 obtain⟨q,hq⟩:∃q:Rat,((1:Int):Rat)=q:=⟨_,rfl⟩
 have hq1:q=1:=by rw[←hq];rfl
 have HI:∀w':World,Calls Tryz.prog 15 #[.int .i64 1] w' (LstQ q w'):=fun w'=>hq▸dg_ 1 w' g0_
 rw[←hq1]
 clear hq hq1
 go_enter Tryz.func51,Tryz.ntmps51
 go_wp2_with fail
 refine (HI _).mono ?_
 rintro e w1 ⟨a1,n1,c1,b1,m1,d1,rfl,h1,g1,b⟩
 unfold frV
 have ba:=aa_ w1 (.cells #[.bool (zneg q.num),.slice a1 n1 c1,.slice b1 m1 d1] 27)
 have HF:=hd_ (Rw.lit1 w1 27 h1 g1)
 have HB:=hd_ (ab_ b ba)
 clear b ba h1 g1 HI
 go_wp2
 go_ret
 exact⟨_,_,_,rfl,HF.out,HB.out⟩
theorem fok_room{h s S x y e:Nat}(hk:Fok h s)(hS:S≤(s+1) * (2 * h+1))(hx:x≤s+2)(hy:y≤S+4)(he:e≤h+1):x+y+(S+2+e * (S+2+1))+4+(S+2)+5≤2000000000:=by
 obtain⟨h1,h2,h3⟩:=hk
 have g1:2 * h * (S+3)≤2 * h * ((s+1) * (2 * h+1)+3):=Nat.mul_le_mul_left _ (by omega)
 have g2:e * (S+2+1)≤(h+1) * (S+3):=Nat.mul_le_mul he (Nat.le_refl _)
 have g3:(h+1) * (S+3)=h * (S+3)+(S+3):=by rw[Nat.add_mul,Nat.one_mul]
 have g4:2 * h * (S+3)=h * (S+3)+h * (S+3):=by rw[Nat.mul_assoc];omega
 have g5:2 * (S+3)≤h * (S+3):=Nat.mul_le_mul_right _ h1
 omega
theorem fok_gcd{h s S:Nat}(hk:Fok h s)(hS:S≤(s+1) * (2 * h+1)):3 * (s+2+2 * h * (S+3))≤1900000000:=by
 obtain⟨h1,h2,h3⟩:=hk
 have g1:2 * h * (S+3)≤2 * h * ((s+1) * (2 * h+1)+3):=Nat.mul_le_mul_left _ (by omega)
 omega
theorem inv_len{z:Int}{S:Nat}(h:z.natAbs≤pw S):qlen (1 / (z:Rat))≤S+2:=by
 have h1:((1:Int):Rat)=1:=rfl
 rw[←h1]
 exact de_ (by have:=fi_ S;omega) h
theorem q9_{g A:List Rat}{h s S:Nat}{z:Int}{c:Nat}(hk:Fok h s)(hS:S≤(s+1) * (2 * h+1))(hsS:s≤S)(hc:0 < c)(hcs:c≤pw s)(hA:Ints (ag_ ((c:Nat):Rat) A) (pw s))(hAn:ah_ A=A)(hAl:A.length≤h)
 (hg:ah_ g=g) (hg0:0 < g.length) (hz0:z≠0) (hz:z.natAbs≤pw (S+2)) (hgI:Ints (ag_ (z:Rat) g) (pw (S+2))):∃I,DivWay A g (S+2) 2000000000 I:=by
 have hc0:((c:Nat):Rat)≠0:=fun e=>by have h9:c=0:=Rat.natCast_inj.1 (e.trans rfl);omega
 have hzr:=ex_ hz0
 obtain⟨w,hl⟩:=DivL.of hg hg0 hgI (d1_ hzr g)
 exact⟨_,DivWay.new (n:=h) (s:=S+2) hl (by rw[hAn];exact hAl) (hA.mono (ch_ (by omega))) (d1_ hc0 A) (Nat.le_refl _) (fok_room hk hS (dp_ (z:=1) (t:=s) (by have:=fi_ s;omega) hcs) (inv_len hz) (by omega))⟩
theorem n1_(a:OA_)(n c:Nat)(L:List Fx)(b:OA_)(m d:Nat)(M:List Fx)(h s:Nat)(w:World)(hU:Fxs w a n c L)(hV:Fxs w b m d M)(htU:thin 2000000000 L)(htV:thin 2000000000 M)(hz:Fz (fqs L) (fqs M) h s)(hk:Fok h s) :
 Calls Tryz.prog 10 #[.agg #[.slice a n c,.slice b m d]] w (LstF (fqs L) (fqs M) w):=by
 have hnU:n≤h:=by rw[←hU.len,←aw_];exact hz.lu
 have hnV:m≤h:=by rw[←hV.len,←aw_];exact hz.lv
 have hh50:h≤50:=hk.2.1
 have hs6:s+2≤700000000:=by have:=hk.2.2;omega
 obtain⟨U,hUe⟩:∃U,fqs L=U:=⟨_,rfl⟩
 obtain⟨V,hVe⟩:∃U,fqs M=U:=⟨_,rfl⟩
 have HNX:∀w':World,Fxs w' a n c L→Calls Tryz.prog 50 #[.slice a n c] w' (b5_ U w'):=fun w' h9=>hUe▸hk_ a n c L w' h9 (by omega) htU
 have HNY:∀w':World,Fxs w' b m d M→Calls Tryz.prog 50 #[.slice b m d] w' (b5_ V w'):=fun w' h9=>hVe▸hk_ b m d M w' h9 (by omega) htV
 rw[hUe,hVe] at hz ⊢
 obtain⟨u0,hu0⟩:∃l,ah_ U=l:=⟨_,rfl⟩
 obtain⟨v0,hv0⟩:∃l,ah_ V=l:=⟨_,rfl⟩
 have HRX:∀(w':World) (a3:OA_) (n3 c3:Nat),Rw w' a3 n3 c3 U→Calls Tryz.prog 49 #[.slice a3 n3 c3] w' (b5_ u0 w'):=fun w' a3 n3 c3 h9=>hu0▸d2_ a3 n3 c3 U w' h9 (by have:=h9.len;have:=hz.lu;omega) (fun q h8=>Nat.le_trans (hz.qlen q h8) (by omega))
 have HRY:∀(w':World) (a3:OA_) (n3 c3:Nat),Rw w' a3 n3 c3 V→Calls Tryz.prog 49 #[.slice a3 n3 c3] w' (b5_ v0 w'):=fun w' a3 n3 c3 h9=>hv0▸d2_ a3 n3 c3 V w' h9 (by have:=h9.len;have:=hz.lv;omega) (fun q h8=>Nat.le_trans (hz.swap.qlen q h8) (by omega))
 have HUV:Hid (peq u0 U∧peq v0 V∧ah_ u0=u0∧ah_ v0=v0∧u0.length≤h∧v0.length≤h):=hd_ ⟨hu0▸au_ U,hv0▸au_ V,by rw[←hu0];exact a7_ _,by rw[←hv0];exact a7_ _,by rw[←hu0];exact Nat.le_trans (az_ _) hz.lu,by rw[←hv0];exact Nat.le_trans (az_ _) hz.lv⟩
 have HZ:=hd_ hz
 have HK:=hd_ hk
 have HONE:∀w':World,Calls Tryz.prog 51 #[] w' (b5_ [1] w'):=fun w'=>q8_ w'
 have HB:=hd_ (ab_ (aa_ w (.cells #[.slice a n c,.slice b m d] 24)) (aa_ _ (.cells #[.slice none 0 0,.slice none 0 0] 24)))
 have X0:Hid (((w.alloc (.cells #[.slice a n c,.slice b m d] 24)).alloc (.cells #[.slice none 0 0,.slice none 0 0] 24)).heap[w.heap.size]? = some (.cells #[.slice a n c,.slice b m d] 24 (0,0))):=hd_ (ac_ (ai_ w _ _) (aa_ _ (.cells #[.slice none 0 0,.slice none 0 0] 24)))
 have R0:Hid (((w.alloc (.cells #[.slice a n c,.slice b m d] 24)).alloc (.cells #[.slice none 0 0,.slice none 0 0] 24)).heap[w.heap.size+1]? = some (.cells #[.slice none 0 0,.slice none 0 0] 24 (0,0))):=hd_ (by have h9:=ai_ (w.alloc (.cells #[.slice a n c,.slice b m d] 24)) #[.slice none 0 0,.slice none 0 0] 24;rwa [al_] at h9)
 have HF:=hd_ (hU.later HB.out)
 have HFz:=hd_ (hV.later HB.out)
 clear hU hV htU htV hUe hVe hu0 hv0 hz hk
 go_enter Tryz.func10,Tryz.ntmps10
 obtain⟨x0,x1⟩:=bd_ X0.out
 go_wp2_with fail
 refine (HNX _ HF.out).mono ?_
 rintro e w1 ⟨a3,n3,c3,rfl,h3,bw⟩
 clear x0 x1
 replace HB:=bt_ HB bw
 replace X0:=bl_ X0 bw
 replace R0:=bl_ R0 bw
 replace HFz:=HFz.l_ bw
 have XX:=hd_ h3
 clear bw h3 HF HNX
 go_wp2_with fail
 refine (HRX _ _ _ _ XX.out).mono ?_
 rintro e w2 ⟨a4,n4,c4,rfl,h4,bw⟩
 replace HB:=bt_ HB bw
 replace X0:=bl_ X0 bw
 replace R0:=bl_ R0 bw
 replace HFz:=HFz.l_ bw
 have hn4:n4≤h:=by rw[←h4.len];exact HUV.out.2.2.2.2.1
 have UU:=hd_ h4
 clear bw h4 XX HRX
 obtain⟨x0,x1⟩:=bd_ X0.out
 go_wp2_with fail
 refine (HNY _ HFz.out).mono ?_
 rintro e w3 ⟨a5,n5,c5,rfl,h5,bw⟩
 clear x0 x1
 replace HB:=bt_ HB bw
 replace X0:=bl_ X0 bw
 replace R0:=bl_ R0 bw
 replace UU:=UU.l_ bw
 have YY:=hd_ h5
 clear bw h5 HFz HNY
 go_wp2_with fail
 refine (HRY _ _ _ _ YY.out).mono ?_
 rintro e w4 ⟨a6,n6,c6,rfl,h6,bw⟩
 replace HB:=bt_ HB bw
 replace X0:=bl_ X0 bw
 replace R0:=bl_ R0 bw
 replace UU:=UU.l_ bw
 have hn6:n6≤h:=by rw[←h6.len];exact HUV.out.2.2.2.2.2
 have VV:=hd_ h6
 clear bw h6 YY HRY X0
 by_cases hv1:n6=0
 ·have hve:((n6:Int) == 0)=true:=by simp[hv1]
  have hF:isF U V [] [1]:=ic_ (.inr (by rw[←am_ HUV.out.2.1];have h9:=bb_ v0;rw[VV.out.len] at h9;omega))
  have HFN:=hd_ hF
  clear hF
  clear UU VV HUV HZ HK
  have ba:=aa_ w4 (.cells #[] 27)
  replace HB:=bt_ HB ba
  replace R0:=bl_ R0 ba
  clear ba
  go_wp2_with fail
  refine (HONE _).mono ?_
  rintro e w5 ⟨a7,n7,c7,rfl,h7,bw⟩
  replace HB:=bt_ HB bw
  replace R0:=bl_ R0 bw
  obtain⟨y0,y1⟩:=bd_ R0.out
  have f0:=ae_ R0.out 0
  have f1:=ae_ R0.out 1
  have R9:=hd_ (bj_ R0.out (.slice (some ⟨w4.heap.size,0,none⟩) 0 0) (.slice a7 n7 c7))
  have A9:=hd_ ((Rw.lit0 w5 ⟨w4.heap.size,0,none⟩).boxed R0.out (.slice (some ⟨w4.heap.size,0,none⟩) 0 0) (.slice a7 n7 c7))
  have B9:=hd_ (h7.boxed R0.out (.slice (some ⟨w4.heap.size,0,none⟩) 0 0) (.slice a7 n7 c7))
  have G9:=hd_ (ay_ HB.out (show w.heap.size≤w.heap.size+1 by omega) (.slice (some ⟨w4.heap.size,0,none⟩) 0 0) (.slice a7 n7 c7))
  clear h7 bw R0 HB HONE
  go_wp2
  refine bodyPost_ret (results_cell_row Tryz.results10 _ _ (w.heap.size+1) 24 #[.slice (some ⟨w4.heap.size,0,none⟩) 0 0,.slice a7 n7 c7] (0,0) _ rfl R9.out Tryz.underlying24 rfl (by kernel_rfl)) rfl ?_
  exact⟨_,0,0,[],a7,n7,c7,[1],rfl,A9.out,B9.out,HFN.out,G9.out⟩
 ·have hve:((n6:Int) == 0)=false:=by simp[hv1]
  by_cases hu1:n4=0
  ·have hue:((n4:Int) == 0)=true:=by simp[hu1]
   have hF:isF U V [] [1]:=ic_ (.inl (by rw[←am_ HUV.out.1];have h9:=bb_ u0;rw[UU.out.len] at h9;omega))
   have HFN:=hd_ hF
   clear hF
   clear UU VV HUV HZ HK
   have ba:=aa_ w4 (.cells #[] 27)
   replace HB:=bt_ HB ba
   replace R0:=bl_ R0 ba
   clear ba
   go_wp2_with fail
   refine (HONE _).mono ?_
   rintro e w5 ⟨a7,n7,c7,rfl,h7,bw⟩
   replace HB:=bt_ HB bw
   replace R0:=bl_ R0 bw
   obtain⟨y0,y1⟩:=bd_ R0.out
   have f0:=ae_ R0.out 0
   have f1:=ae_ R0.out 1
   have R9:=hd_ (bj_ R0.out (.slice (some ⟨w4.heap.size,0,none⟩) 0 0) (.slice a7 n7 c7))
   have A9:=hd_ ((Rw.lit0 w5 ⟨w4.heap.size,0,none⟩).boxed R0.out (.slice (some ⟨w4.heap.size,0,none⟩) 0 0) (.slice a7 n7 c7))
   have B9:=hd_ (h7.boxed R0.out (.slice (some ⟨w4.heap.size,0,none⟩) 0 0) (.slice a7 n7 c7))
   have G9:=hd_ (ay_ HB.out (show w.heap.size≤w.heap.size+1 by omega) (.slice (some ⟨w4.heap.size,0,none⟩) 0 0) (.slice a7 n7 c7))
   clear h7 bw R0 HB HONE
   go_wp2
   refine bodyPost_ret (results_cell_row Tryz.results10 _ _ (w.heap.size+1) 24 #[.slice (some ⟨w4.heap.size,0,none⟩) 0 0,.slice a7 n7 c7] (0,0) _ rfl R9.out Tryz.underlying24 rfl (by kernel_rfl)) rfl ?_
   exact⟨_,0,0,[],a7,n7,c7,[1],rfl,A9.out,B9.out,HFN.out,G9.out⟩
  ·have hue:((n4:Int) == 0)=false:=by simp[hu1]
   have hv00:plen v0≠0:=by rw[a0_ HUV.out.2.2.2.1,VV.out.len];exact hv1
   have hu00:plen u0≠0:=by rw[a0_ HUV.out.2.2.1,UU.out.len];exact hu1
   have hlu:=HUV.out.2.2.2.2.1
   have hlv:=HUV.out.2.2.2.2.2
   have hpu:=bb_ u0
   have hpv:=bb_ v0
   obtain⟨S,hS⟩:∃S,(s+1) * (plen u0+plen v0+1)=S:=⟨_,rfl⟩
   have hSm:S≤(s+1) * (2 * h+1):=by rw[←hS];exact Nat.mul_le_mul_left _ (by omega)
   have hsS:s≤S:=by rw[←hS,Nat.mul_add];omega
   obtain⟨cc,cc0,ccs,ccU,ccV⟩:=HZ.out.form
   have ccu:=ccU.congr (bu_ _ HUV.out.1.symm)
   have ccv:=ccV.congr (bu_ _ HUV.out.2.1.symm)
   have hz0:Fz u0 v0 h s:=⟨hlu,hlv,cc,cc0,ccs,ccu,ccv⟩
   have hqu:∀q∈u0,qlen q≤15728640000:=fun q hq=>Nat.le_trans (hz0.qlen q hq) (by omega)
   have hqv:∀q∈v0,qlen q≤15728640000:=fun q hq=>Nat.le_trans (hz0.swap.qlen q hq) (by omega)
   have hE:=fok_gcd HK.out hSm
   have HGC:=fun (w':World) (h8:Rw w' a4 n4 c4 u0) (h9:Rw w' a6 n6 c6 v0)=>q4_ a4 n4 c4 u0 a6 n6 c6 v0 (3 * (s+2+2 * h * (S+3))) (S+2) _ w' h8 h9 (by omega) (by omega) hqu hqv (GcdWay.new cc0 ccs ccu ccv (by omega) hS (n:=h) (by omega) (by omega) (Nat.le_refl _)) (by omega)
   clear hE
   go_wp2_with fail
   refine (HGC _ UU.out VV.out).mono ?_
   rintro e w5 ⟨a7,n7,c7,g,rfl,h7,hg1,hg2,hg3,⟨z,hz0,hz1,hz2⟩,bw⟩
   clear HGC
   replace HB:=bt_ HB bw
   replace R0:=bl_ R0 bw
   replace UU:=UU.l_ bw
   replace VV:=VV.l_ bw
   have GG:=hd_ h7
   have hgl:=hg1.1.2.1.len hv00
   rw[a0_ hg2,h7.len] at hgl
   have hg0:0 < g.length:=by rw[h7.len];omega
   have hn7:0 < n7:=by omega
   obtain⟨I,HWX⟩:=q9_ HK.out hSm hsS cc0 ccs ccu HUV.out.2.2.1 hlu hg2 hg0 hz0 hz1 hz2
   obtain⟨I2,HWY⟩:=q9_ HK.out hSm hsS cc0 ccs ccv HUV.out.2.2.2.1 hlv hg2 hg0 hz0 hz1 hz2
   have HDX:=fun (w':World) (h8:Rw w' a4 n4 c4 u0) (h9:Rw w' a7 n7 c7 g)=>h1_ a4 n4 c4 u0 a7 n7 c7 g (S+2) 2000000000 I w' h8 h9 (by omega) (by omega) hqu hg3 hg2 hn7 HWX (Nat.le_refl _)
   have HDY:=fun (w':World) (h8:Rw w' a6 n6 c6 v0) (h9:Rw w' a7 n7 c7 g)=>h1_ a6 n6 c6 v0 a7 n7 c7 g (S+2) 2000000000 I2 w' h8 h9 (by omega) (by omega) hqv hg3 hg2 hn7 HWY (Nat.le_refl _)
   have hGUV:isGcd U V g:=⟨hg1.1.of HUV.out.1 HUV.out.2.1 (peq.refl g),hg1.2⟩
   have hpx:=hg1.1.1
   have hpy:=hg1.1.2.1
   have HV0:Hid (plen V≠0):=hd_ (by rw[←am_ HUV.out.2.1];exact hv00)
   have HGUV:=hd_ hGUV
   have HPX:=hd_ hpx
   have HPY:=hd_ hpy
   have HRX:=hd_ (fun (Q R:LR_) (h9:I Q R)=>(HWX.room h9).2)
   have HRY:=hd_ (fun (Q R:LR_) (h9:I2 Q R)=>(HWY.room h9).2)
   clear h7 bw hg1 hg2 hg3 hz0 hz1 hz2 hgl hg0 hqu hqv HWX HWY hGUV hpx hpy cc0 ccs ccU ccV ccu ccv hS hSm hsS hu00 hv00 hlu hlv hpu hpv HK HZ HONE
   go_wp2_with fail
   refine (HDX _ UU.out GG.out).mono ?_
   rintro e w6 ⟨a8,n8,c8,x,a9,n9,c9,r,rfl,h8,h9,d1,d2,d3,d4,⟨Q,hQ,hI⟩,d6,bw⟩
   clear HDX
   have hr0:r=[]:=List.eq_nil_of_length_eq_zero (by rw[←a0_ d3];exact HPX.out.rest d1)
   have hux:peq U (pmul x g):=HUV.out.1.symm.trans (d1.1.trans (aq_ fun y=>by rw[a2_,hr0];show _+(0:Rat)=_;grind))
   have hxq:∀q∈x,qlen q≤2000000000:=fun q hq=>HRX.out Q r hI q (fy_ (hQ▸hq))
   have HUX:=hd_ hux
   have HXQ:=hd_ hxq
   have hn8:n8≤50:=by rw[←h8.len];omega
   replace HB:=bt_ HB bw
   replace R0:=bl_ R0 bw
   replace VV:=VV.l_ bw
   replace GG:=GG.l_ bw
   have XR:=hd_ h8
   clear h8 h9 d1 d2 d3 d4 d6 bw hr0 hux hxq hQ hI UU HPX HRX
   go_wp2_with fail
   refine (HDY _ VV.out GG.out).mono ?_
   rintro e w7 ⟨a10,n10,c10,y,a11,n11,c11,r2,rfl,h10,h11,d1,d2,d3,d4,⟨Q2,hQ,hI⟩,d6,bw⟩
   clear HDY
   have hr0:r2=[]:=List.eq_nil_of_length_eq_zero (by rw[←a0_ d3];exact HPY.out.rest d1)
   have hvy:peq V (pmul y g):=HUV.out.2.1.symm.trans (d1.1.trans (aq_ fun y=>by rw[a2_,hr0];show _+(0:Rat)=_;grind))
   have hyq:∀q∈y,qlen q≤2000000000:=fun q hq=>HRY.out Q2 r2 hI q (fy_ (hQ▸hq))
   have hy0:plen y≠0:=fun e=>HV0.out (by rw[am_ hvy,am_ (a1_ (cy_ e) (peq.refl g))];rfl)
   rw[a0_ d2,h10.len] at hy0
   have hyp:plen y=n10:=by rw[a0_ d2,h10.len]
   have hn10:n10≤50:=by rw[←h10.len];omega
   have hbd10:=h10.bound
   obtain⟨e2,he2⟩:∃e2,n10 - 1=e2:=⟨_,rfl⟩
   obtain⟨yt,hyt⟩:∃t,y.getD e2 0=t:=⟨_,rfl⟩
   obtain⟨z1,hz1⟩:∃q:Rat,((1:Int):Rat)=q:=⟨_,rfl⟩
   have hz11:z1=1:=by rw[←hz1];rfl
   obtain⟨cq,hcq⟩:∃t,z1 / yt=t:=⟨_,rfl⟩
   have hcy:cq=1 / co y (plen y - 1):=by rw[←hcq,hz11,←hyt,hyp,he2];rfl
   have hfin:=sv_ HGUV.out HV0.out HUX.out hvy hcy
   have hlt:qlen yt≤2000000000:=by rw[←hyt];exact hyq _ (fq_ (by rw[h10.len];omega))
   have hlc:qlen cq≤2000000000:=by
    rw[←hcq,hz11,Rat.div_def,Rat.one_mul]
    exact Nat.le_trans (iq_ _) hlt
   have HI1:∀w':World,Calls Tryz.prog 15 #[.int .i64 1] w' (LstQ z1 w'):=fun w'=>hz1▸dg_ 1 w' g0_
   have hlz:qlen z1≤2:=hz1▸b4_ (by decide)
   obtain⟨xs,hxs⟩:∃l,ah_ (ag_ cq x)=l:=⟨_,rfl⟩
   obtain⟨ys,hys⟩:∃l,ah_ (ag_ cq y)=l:=⟨_,rfl⟩
   have HSX:∀(w':World) (v:Value),Rt w' v cq 2000000000→Rw w' a8 n8 c8 x→Calls Tryz.prog 55 #[v,.slice a8 n8 c8] w' (b5_ xs w'):=fun w' v g1 g2=>hxs▸g7_ v cq a8 n8 c8 x w' g1 g2 (by omega) HXQ.out
   have HSY:∀(w':World) (v:Value),Rt w' v cq 2000000000→Rw w' a10 n10 c10 y→Calls Tryz.prog 55 #[v,.slice a10 n10 c10] w' (b5_ ys w'):=fun w' v g1 g2=>hys▸g7_ v cq a10 n10 c10 y w' g1 g2 (by omega) hyq
   rw[hxs,hys] at hfin
   have HFN:=hd_ hfin
   have HLC:=hd_ hlc
   have HLZ:=hd_ hlz
   replace HB:=bt_ HB bw
   replace R0:=bl_ R0 bw
   replace XR:=XR.l_ bw
   have YR:=hd_ h10
   have hi2:(n10:Int) - 1=(e2:Int):=by omega
   have hw2:IntKind.i64.wrap (e2:Int)=(e2:Int):=by rw[IntKind.wrap_i64];omega
   have hl2:(e2:Int) < (n10:Int):=by omega
   obtain⟨bb,off,rfl,a3,n3,c3,b3,m3,d3',hea,hA,hDn⟩:=h10.at (j:=e2) (by omega)
   rw[hyt] at hea hA hDn
   have hn3:n3≤15728640000:=by rw[←hA.len];exact Nat.le_trans (a5_ _) (by omega)
   have hm3:m3≤15728640000:=by rw[←hDn.len];exact Nat.le_trans (a4_ _) (by omega)
   have HEA:=hd_ hea
   have QA:=hd_ hA
   have QD:=hd_ hDn
   have ECQ:=hd_ hcq
   clear h10 h11 d1 d2 d3 d4 d6 bw hr0 hvy hyq hy0 hyp he2 hyt hz1 hz11 hcq hcy hfin hlt hlc hlz hxs hys hea hA hDn hQ hI VV GG HPY HRY HGUV HV0 HUX HXQ HUV
   go_upto_region 8 with fail
   go_cut [10] from 45 to 52 (fun cv wx=>∃(g:Nat) (a5:OA_) (n5 c5:Nat) (b5:OA_) (m5 d5:Nat),cv=.pointer (some ⟨g,0,none⟩)∧Hid (wx.heap[g]? = some (.cells #[.bool (zneg cq.num),.slice a5 n5 c5,.slice b5 m5 d5] 27 (0,0)))∧Hid (Wd wx a5 n5 c5 (dg cq.num.natAbs))∧Hid (Wd wx b5 m5 d5 (dg cq.den))∧Hid (Below w7.heap.size w7 wx)∧Hid (w7.heap.size≤g))
   case first=>
    go_wp2
    have G1:Below w7.heap.size w7 w7.drew:=(Below.refl _ _).drew
    have G2:∀o,Below w7.heap.size w7 (w7.alloc o).drew:=fun o=>(aa_ w7 o).drew
    have qS:=an_ HEA.out G1
    have qA:=fun o=>an_ HEA.out (G2 o)
    have HQU:∀(w':World) (a4 b4:OA_) (n4 c4 m4 d4:Nat),Below w7.heap.size w7 w'→Wd w' a4 n4 c4 (dg z1.num.natAbs)→Wd w' b4 m4 d4 (dg z1.den)→n4≤2→m4≤2→Calls Tryz.prog 54 #[.agg #[.bool (zneg z1.num),.slice a4 n4 c4,.slice b4 m4 d4],.agg #[.bool (zneg yt.num),.slice a3 n3 c3,.slice b3 m3 d3']] w' (LstQ cq w'):=fun w' a4 b4 n4 c4 m4 d4 g1 g2 g3 g4 g5=>ECQ.out▸hf_ _ _ z1 yt w' (Rt.of g2 g3 (by omega) (by omega)) (Rt.of (QA.out.later g1) (QD.out.later g1) hn3 hm3)
    go_region_held3 (fun w'=>w'.cell? ⟨bb,off+e2 * 3,none⟩=some (.bool (zneg yt.num))∧w'.cell? ⟨bb,off+e2 * 3+1,none⟩=some (.slice a3 n3 c3)∧w'.cell? ⟨bb,off+e2 * 3+2,none⟩=some (.slice b3 m3 d3')) (first | with_reducible exact qS | with_reducible exact qA _ | with_reducible exact qC)
     (first
     | (go_at_call 15;refine (HI1 _).mono ?_;rintro e w8 ⟨a4,n4,c4,b4,m4,d4,rfl,h4,g4,bw⟩;(first
       | (have bw1:Below w7.drew.heap.size w7.drew w8:=(by with_reducible exact bw);have BB:=hd_ (ab_ G1 bw1))
       | (have bw1:Below (w7.alloc (.cells #[.bool false,.slice none 0 0,.slice none 0 0] 27)).drew.heap.size (w7.alloc (.cells #[.bool false,.slice none 0 0,.slice none 0 0] 27)).drew w8:=(by with_reducible exact bw);have BB:=hd_ (ab_ (G2 _) bw1);have Z4:=hd_ (ac_ (w:=(w7.alloc (.cells #[.bool false,.slice none 0 0,.slice none 0 0] 27)).drew) (ai_ w7 #[.bool false,.slice none 0 0,.slice none 0 0] 27) bw1);have ZL:Hid (w7.heap.size≤w7.heap.size):=hd_ (Nat.le_refl _)));have hn4:n4≤2:=Nat.le_trans (Nat.le_of_eq h4.len.symm) (Nat.le_trans (a5_ _) HLZ.out);have hm4:m4≤2:=Nat.le_trans (Nat.le_of_eq g4.len.symm) (Nat.le_trans (a4_ _) HLZ.out);have A4:=hd_ h4;have D4:=hd_ g4;clear bw bw1 h4 g4 qS qA;unfold frV;have qS:=an_ HEA.out BB.out;have qA:=fun o=>an_ HEA.out (ab_ BB.out (aa_ w8 o)))
     | (go_at_call 54;(first
       | (have zz:=Z4.out;refine (HQU _ _ _ _ _ _ _ BB.out A4.out D4.out hn4 hm4).mono ?_;rintro e w9 ⟨a5,n5,c5,b5,m5,d5,rfl,h5,g5,bw⟩;replace Z4:=bl_ Z4 bw;have BC:=hd_ (ab_ BB.out bw);have A5:=hd_ h5;have D5:=hd_ g5;clear zz h5 g5 bw;unfold frV;obtain⟨z0,z1',z2⟩:=ao_ Z4.out;have f0:=ae_ Z4.out 0;have f1:=ae_ Z4.out 1;have f2:=ae_ Z4.out 2;have qC:=an_ HEA.out (as_ BC.out (Nat.le_refl _) (.bool (zneg cq.num)) (.slice a5 n5 c5) (.slice b5 m5 d5));clear qS qA;have qS:=an_ HEA.out BC.out;have qA:=fun o=>an_ HEA.out (ab_ BC.out (aa_ w9 o)))
       | (refine (HQU _ _ _ _ _ _ _ BB.out A4.out D4.out hn4 hm4).mono ?_;rintro e w9 ⟨a5,n5,c5,b5,m5,d5,rfl,h5,g5,bw⟩;have BC:=hd_ (ab_ BB.out bw);have A5:=hd_ h5;have D5:=hd_ g5;clear h5 g5 bw;unfold frV;clear qS qA;have qS:=an_ HEA.out BC.out;have qA:=fun o=>an_ HEA.out (ab_ BC.out (aa_ w9 o)))
       | (have BA:=ab_ BB.out (aa_ w8 (.cells #[.bool false,.slice none 0 0,.slice none 0 0] 27));refine (HQU _ _ _ _ _ _ _ BA (A4.out.later (aa_ w8 _)) (D4.out.later (aa_ w8 _)) hn4 hm4).mono ?_;rintro e w9 ⟨a5,n5,c5,b5,m5,d5,rfl,h5,g5,bw⟩;have Z4:=hd_ (ac_ (ai_ w8 #[.bool false,.slice none 0 0,.slice none 0 0] 27) bw);have BC:=hd_ (ab_ BA bw);have A5:=hd_ h5;have D5:=hd_ g5;clear BA h5 g5 bw;unfold frV;obtain⟨z0,z1',z2⟩:=ao_ Z4.out;have f0:=ae_ Z4.out 0;have f1:=ae_ Z4.out 1;have f2:=ae_ Z4.out 2;have qC:=an_ HEA.out (as_ BC.out BB.out.size (.bool (zneg cq.num)) (.slice a5 n5 c5) (.slice b5 m5 d5));clear qS qA;have qS:=an_ HEA.out BC.out;have qA:=fun o=>an_ HEA.out (ab_ BC.out (aa_ w9 o))))))
    all_goals (
     go_wp2
     go_meet
     (first
       | exact⟨w7.heap.size,a5,n5,c5,b5,m5,d5,rfl,hd_ (be_ Z4.out (.bool (zneg cq.num)) (.slice a5 n5 c5) (.slice b5 m5 d5)),hd_ (A5.out.stored3 Z4.out (zneg cq.num) a5 n5 c5 (.slice b5 m5 d5)),hd_ (D5.out.stored3 Z4.out (zneg cq.num) a5 n5 c5 (.slice b5 m5 d5)),hd_ (as_ BC.out (Nat.le_refl _) (.bool (zneg cq.num)) (.slice a5 n5 c5) (.slice b5 m5 d5)),hd_ (Nat.le_refl _)⟩
       | exact⟨w8.heap.size,a5,n5,c5,b5,m5,d5,rfl,hd_ (be_ Z4.out (.bool (zneg cq.num)) (.slice a5 n5 c5) (.slice b5 m5 d5)),hd_ (A5.out.stored3 Z4.out (zneg cq.num) a5 n5 c5 (.slice b5 m5 d5)),hd_ (D5.out.stored3 Z4.out (zneg cq.num) a5 n5 c5 (.slice b5 m5 d5)),hd_ (as_ BC.out BB.out.size (.bool (zneg cq.num)) (.slice a5 n5 c5) (.slice b5 m5 d5)),hd_ BB.out.size⟩
       | exact⟨w9.heap.size,a5,n5,c5,b5,m5,d5,rfl,hd_ (ai_ w9 _ 27),hd_ (A5.out.later (aa_ w9 _)),hd_ (D5.out.later (aa_ w9 _)),hd_ (ab_ BC.out (aa_ w9 _)),hd_ BC.out.size⟩))
   case rest=>
    obtain⟨g2,a5,n5,c5,b5,m5,d5,rfl,CB,A5,D5,HBc,HGE⟩:=hcut
    have hsz7:w.heap.size+1 < w7.heap.size:=(Array.getElem?_eq_some_iff.1 R0.out).1
    have hne:g2≠w.heap.size+1:=by have:=HGE.out;omega
    have hn5:n5≤2000000000:=by rw[←A5.out.len];exact Nat.le_trans (a5_ _) HLC.out
    have hm5:m5≤2000000000:=by rw[←D5.out.len];exact Nat.le_trans (a4_ _) HLC.out
    replace HB:=hd_ (ab_ HB.out HBc.out)
    replace R0:=hd_ (ac_ R0.out HBc.out)
    replace XR:=hd_ (XR.out.later HBc.out)
    replace YR:=hd_ (YR.out.later HBc.out)
    clear HBc HGE hi2 hw2 hl2 HI1 HEA QA QD ECQ HLC HLZ
    go_wp2
    have b0:Below wc.heap.size wc wc.drew:=(Below.refl _ _).drew
    replace HB:=bt_ HB b0
    replace R0:=bl_ R0 b0
    replace CB:=bl_ CB b0
    replace XR:=XR.l_ b0
    replace YR:=YR.l_ b0
    replace A5:=A5.l_ b0
    replace D5:=D5.l_ b0
    clear b0
    have qS:=ao_ CB.out
    go_region_held3 (fun w'=>w'.cell? ⟨g2,0,none⟩=some (.bool (zneg cq.num))∧w'.cell? ⟨g2,1,none⟩=some (.slice a5 n5 c5)∧w'.cell? ⟨g2,2,none⟩=some (.slice b5 m5 d5)) (first | with_reducible exact qS | with_reducible exact qC)
     (first
     | (go_at_call 55;(first
       | (have zz:=S1.out;clear zz;refine (HSY _ _ (Rt.of A5.out D5.out hn5 hm5) YR.out).mono ?_;rintro e w11 ⟨a13,n13,c13,rfl,h13,bw⟩;replace HB:=bt_ HB bw;replace R0:=bl_ R0 bw;replace CB:=bl_ CB bw;replace S1:=S1.l_ bw;have S2:=hd_ h13;clear h13 bw;obtain⟨y0,y1⟩:=bd_ R0.out;have f0:=ae_ R0.out 0;have f1:=ae_ R0.out 1;have qC:=ao_ (db_ CB.out hne (.slice a12 n12 c12) (.slice a13 n13 c13));clear qS;have qS:=ao_ CB.out)
       | (refine (HSX _ _ (Rt.of A5.out D5.out hn5 hm5) XR.out).mono ?_;rintro e w10 ⟨a12,n12,c12,rfl,h12,bw⟩;replace HB:=bt_ HB bw;replace R0:=bl_ R0 bw;replace CB:=bl_ CB bw;replace YR:=YR.l_ bw;replace A5:=A5.l_ bw;replace D5:=D5.l_ bw;have S1:=hd_ h12;clear h12 bw qS;have qS:=ao_ CB.out))))
    all_goals (
     have R9:=hd_ (bj_ R0.out (.slice a12 n12 c12) (.slice a13 n13 c13))
     have P9:=hd_ (S1.out.boxed R0.out (.slice a12 n12 c12) (.slice a13 n13 c13))
     have Q9:=hd_ (S2.out.boxed R0.out (.slice a12 n12 c12) (.slice a13 n13 c13))
     have G9:=hd_ (ay_ HB.out (show w.heap.size≤w.heap.size+1 by omega) (.slice a12 n12 c12) (.slice a13 n13 c13))
     clear R0 CB S1 S2 HB
     go_wp2
     refine bodyPost_ret (results_cell_row Tryz.results10 _ _ (w.heap.size+1) 24 #[.slice a12 n12 c12,.slice a13 n13 c13] (0,0) _ rfl R9.out Tryz.underlying24 rfl (by kernel_rfl)) rfl ?_
     exact⟨a12,n12,c12,xs,a13,n13,c13,ys,rfl,P9.out,Q9.out,HFN.out,G9.out⟩)
theorem tab_pdiff(a:LR_):peq (tab (a.length - 1) (fun i=>((i+1:Nat):Rat) * co a (i+1))) (bw_ a):=fun i=>by
 rw[rd_,dk_]
 split
 ·rfl
 ·rw[da_ (l:=a) (by omega),Rat.mul_zero]
theorem oi_(a:OA_)(n c:Nat)(qs:LR_)(w:World)(h:Rw w a n c qs)(hn:n≤1000)(hq:∀q∈qs,qlen q≤5000000000):Calls Tryz.prog 81 #[.slice a n c] w (b5_ (ah_ (bw_ qs)) w):=by
 have hbd:=h.bound
 have HK:=hd_ h
 have hl1:=h.len
 obtain⟨T,hT⟩:∃T,tab (n - 1) (fun i=>((i+1:Nat):Rat) * co qs (i+1))=T:=⟨_,rfl⟩
 have HTL:Hid (T.length=n - 1):=hd_ (by rw[←hT,e5_])
 have HTA:Hid (∀j,1≤j→j < n→T.take j=T.take (j - 1) ++ [((j:Nat):Rat) * co qs j]):=hd_ (fun j h1 h2=>by
  have h3:=f9_ (L:=T) (k:=j - 1) (by rw[←hT,e5_];omega)
  have h4:T.getD (j - 1) 0=((j:Nat):Rat) * co qs j:=by rw[←hT,nz_ (by omega),show j - 1+1=j by omega]
  rw[h4,show j - 1+1=j by omega] at h3
  exact h3)
 have HLP:Hid (∀i,qlen (co qs i)≤5000000000):=hd_ (cv_ (by decide) hq)
 have HTQ:Hid (∀q∈T,qlen q≤15728640000):=hd_ (fun q hq=>by
  obtain⟨i,h5,rfl⟩:=sp_ (hT▸hq)
  have h1:=ci_ ((i+1:Nat):Rat) (co qs (i+1))
  have h2:=HLP.out (i+1)
  have h3:qlen (((i+1:Nat):Rat))≤2:=b4_ (z:=((i+1:Nat):Int)) (by unfold f6_;omega)
  omega)
 have HPN:Hid (ah_ T=ah_ (bw_ qs)):=hd_ (by rw[←hT,←hl1];exact br_ (tab_pdiff qs))
 rw[←HPN.out]
 obtain⟨N,hN⟩:∃N,max n 1=N:=⟨_,rfl⟩
 have hnN:n≤N:=by omega
 have hN1:1≤N:=by omega
 have HNN:Hid (N=n∨(N=1∧n=0)):=hd_ (by omega)
 clear hT h hq hl1 HPN hN
 obtain⟨i0,hi,hz0,hz1,hz2⟩:=info_parts d4_
 go_enter Tryz.func81,Tryz.ntmps81
 go_wp2
 go_loopw [3,4] (fun mv iv wr=>∃j:Nat,1≤j∧j≤N∧iv=.int .i64 (j:Int)∧Hid (Row wr w.heap.size 27 mv (T.take (j - 1)))∧Hid (Below w.heap.size w wr)∧w.heap.size≤wr.heap.size) (fun _ iv _=>N - (intOf iv).toNat)
 case atStart=>exact⟨1,by omega,hN1,rfl,hd_ (Row.nil _ _ _),hd_ (Below.refl _ _),by omega⟩
 case round=>
  obtain⟨j,hj1,hj,rfl,HO,HB,hsz⟩:=hrel
  by_cases hlt:j < n
  ·have HT:Hid (T.take j=T.take (j - 1) ++ [((j:Nat):Rat) * co qs j]):=hd_ (HTA.out j hj1 hlt)
   have hkL:(T.take (j - 1)).length≤1000000:=by rw[cl_ (by rw[HTL.out];omega)];omega
   have hla:=HLP.out j
   obtain⟨bb,off,rfl,a1,n1,c1,b1,m1,d1,he,hA,hD⟩:=HK.out.at hlt
   have hco:qs.getD j 0=co qs j:=rfl
   rw[hco] at he hA hD
   have hn1:n1≤5000000000:=by rw[←hA.len];exact Nat.le_trans (a5_ _) hla
   have hm1:m1≤5000000000:=by rw[←hD.len];exact Nat.le_trans (a4_ _) hla
   obtain⟨z,hz⟩:∃z:Rat,((j:Nat):Rat)=z:=⟨_,rfl⟩
   have hlz:qlen z≤2:=hz▸b4_ (z:=((j:Nat):Int)) (by unfold f6_;omega)
   have HI:∀w':World,Calls Tryz.prog 15 #[.int .i64 (j:Int)] w' (LstQ z w'):=fun w'=>hz▸dg_ (j:Int) w' (by unfold f6_;omega)
   rw[hz] at HT
   obtain⟨tk,htk⟩:∃t,z * co qs j=t:=⟨_,rfl⟩
   rw[htk] at HT
   generalize co qs j=q at *
   obtain⟨U,hU⟩:∃U,T.take j=U:=⟨_,rfl⟩
   have HU:=hd_ hU
   rw[hU] at HT
   obtain⟨V,hV⟩:∃V,T.take (j - 1)=V:=⟨_,rfl⟩
   rw[hV] at HT HO hkL
   have HE:=hd_ he
   have AK:=hd_ hA
   have DK:=hd_ hD
   have ETK:=hd_ htk
   have hji:(j:Int) < (n:Int):=by omega
   clear he hA hD hco hla hz htk hU hV
   obtain⟨e0,e1,e2⟩:=an_ HE.out HB.out
   go_wp2
   have b0:Below wr.heap.size wr wr.drew:=(Below.refl _ _).drew
   replace HB:=bt_ HB b0
   replace HO:=HO.l_ b0
   replace hsz:=Nat.le_trans hsz b0.size
   clear e0 e1 e2 b0
   obtain⟨e0,e1,e2⟩:=an_ HE.out HB.out
   go_region_law (first
    | (refine ew_ rfl _ _ 22 rfl w.heap.size 27 i0 Tryz.underlying22 hi hz0 hz1 hz2 _ V rfl HOa.out _ tk a4 n4 c4 b4 m4 d4 rfl (gm_ _ _ _ _ _ _ _ _ _) HAa.out HCa.out hkL (by rw[al_];omega) ?_;intro mv5 w5 hrow hgrow hbase hcl)
    | (go_simp;go_at_call 15;refine (HI _).mono ?_;rintro e w3 ⟨a3,n3,c3,b3,m3,d3,rfl,h3,g3,bw⟩;clear e0 e1 e2;replace HB:=bt_ HB bw;replace HO:=HO.l_ bw;have hsz3:w.heap.size≤w3.heap.size:=Nat.le_trans hsz bw.size;clear hsz;have hn3:n3≤2:=Nat.le_trans (Nat.le_of_eq h3.len.symm) (Nat.le_trans (a5_ _) hlz);have hm3:m3≤2:=Nat.le_trans (Nat.le_of_eq g3.len.symm) (Nat.le_trans (a4_ _) hlz);have A3:=hd_ h3;have D3:=hd_ g3;clear bw h3 g3;unfold frV;obtain⟨e0,e1,e2⟩:=an_ HE.out HB.out)
    | (go_simp;go_at_call 114;refine (fw_ _ _ z q _ (Rt.of A3.out D3.out (by omega) (by omega)) (Rt.of (AK.out.later HB.out) (DK.out.later HB.out) (by omega) (by omega))).mono ?_;rintro e w4 ⟨a4,n4,c4,b4,m4,d4,rfl,h4,g4,bw⟩;rw[ETK.out] at h4 g4 ⊢;clear e0 e1 e2;replace HB:=bt_ HB bw;replace HO:=HO.l_ bw;have hsz4:w.heap.size≤w4.heap.size:=Nat.le_trans hsz3 bw.size;have HA4:=hd_ h4;have HB4:=hd_ g4;clear bw hsz3 h4 g4 A3 D3;unfold frV;have ba:=aa_ w4 (.cells #[.bool (zneg tk.num),.slice a4 n4 c4,.slice b4 m4 d4] 27);have HOa:=HO.l_ ba;have HBa:=hd_ (ab_ HB.out ba);have HAa:=HA4.l_ ba;have HCa:=HB4.l_ ba;clear ba HO HB HA4 HB4))
   all_goals (
    have HO5:Hid (Row w5 w.heap.size 27 mv5 (T.take (j+1 - 1))):=hd_ (by rw[Nat.add_sub_cancel,HU.out,HT.out];exact hrow)
    have HB5:=hd_ (HBa.out.grown hgrow (by rw[al_];omega) hbase)
    have hsz5:w.heap.size≤w5.heap.size:=Nat.le_trans (by rw[al_];omega) hgrow.size
    clear hrow hgrow hbase hcl HOa HBa HAa HCa HT HU hsz4
    go_wp2
    go_roundw
    case rel=>exact⟨j+1,by omega,by omega,by go_num,HO5,HB5,hsz5⟩
    case measure=>simp[intOf];omega)
  ·have hji:¬(j:Int) < (n:Int):=by omega
   have hjN:j - 1=n - 1:=by have:=HNN.out;omega
   have HF:=hd_ (HO.out.whole (by rw[HTL.out,hjN]))
   obtain⟨a9,c9,rfl,h9⟩:=HF.out.out
   rw[HTL.out] at h9 ⊢
   obtain⟨n9,hn9⟩:∃x,n - 1=x:=⟨_,rfl⟩
   rw[hn9] at h9 ⊢
   have hn91:n9≤1000:=by omega
   have HF9:=hd_ h9
   clear h9 HF HO hjN hn9
   go_wp2_with fail
   refine (d2_ a9 n9 c9 T _ HF9.out hn91 HTQ.out).mono ?_
   rintro e w2 ⟨a2,n2,c2,rfl,h2,b⟩
   replace HB:=bt_ HB b
   have HT2:=hd_ h2
   clear b h2 HF9
   go_wp2
   go_ret
   exact⟨a2,n2,c2,rfl,HT2.out,HB.out⟩
theorem fok_mul{h s:Nat}(hk:Fok h s):(h+1) * (s+12)≤2000000000:=by
 obtain⟨h1,h2,h3⟩:=hk
 have g1:(h+1) * (s+12)=(h+1) * (s+1)+(h+1) * 11:=by rw[←Nat.mul_add]
 have g2:(h+1) * (s+1)≤(2 * h+1) * (s+1):=Nat.mul_le_mul_right _ (by omega)
 have g3:(s+1) * (2 * h+1)≤2 * h * ((s+1) * (2 * h+1)):=Nat.le_mul_of_pos_left _ (by omega)
 have g4:2 * h * ((s+1) * (2 * h+1)+3)=2 * h * ((s+1) * (2 * h+1))+2 * h * 3:=Nat.mul_add _ _ _
 rw[g4] at h3
 rw[Nat.mul_comm (2 * h+1)] at g2
 omega
theorem Fz.congr{U V U' V':List Rat}{h s:Nat}(f:Fz U V h s)(hU:peq U U')(hV:peq V V')(lu:U'.length≤h)(lv:V'.length≤h):Fz U' V' h s:=by
 obtain⟨_,_,c,c1,c2,c3,c4⟩:=f
 exact⟨lu,lv,c,c1,c2,c3.congr (bu_ _ hU),c4.congr (bu_ _ hV)⟩
theorem jx_(a:OA_)(n c:Nat)(p:LR_)(b:OA_)(m d:Nat)(q:LR_){U V:List Rat}{h s:Nat}(w:World)(hp:Rw w a n c p)(hq:Rw w b m d q)(eU:peq U p)(eV:peq V q)(hz:Fz U V h s)(lp:p.length≤h)(lq:q.length≤h)(hk:Fok h s) :
 Calls Tryz.prog 10 #[.agg #[.slice a n c,.slice b m d]] w (LstF U V w):=by
 have hz2:=hz.congr eU eV lp lq
 have hs:=fok_mul hk
 have hs2:s+12≤2000000000:=Nat.le_trans (Nat.le_mul_of_pos_left _ (by omega)) hs
 obtain⟨L,h1,h2,h3⟩:=hp.thin (N:=2000000000) (fun q hq=>Nat.le_trans (hz2.qlen q hq) (by omega))
 obtain⟨M,k1,k2,k3⟩:=hq.thin (N:=2000000000) (fun q hq=>Nat.le_trans (hz2.swap.qlen q hq) (by omega))
 refine (n1_ a n c L b m d M h s w h1 k1 h3 k3 (by rw[h2,k2];exact hz2) hk).mono fun e w' h9=>?_
 obtain⟨a1,n1,c1,u,b1,m1,d1,v,g1,g2,g3,g4,g5⟩:=h9
 rw[h2,k2] at g4
 exact⟨a1,n1,c1,u,b1,m1,d1,v,g1,g2,g3,g4.of eU.symm eV.symm,g5⟩
end Go.Proofs.YtocebjbjnfammaaGreat
