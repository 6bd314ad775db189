import Derived.Test.YtocebjbjnfammaaGreatSG9
import Derived.Deep.AppendSrc
import Derived.Deep.RegionWith
import Derived.Test.YtocebjbjnfammaaGreatSG10
import Derived.Test.YtocebjbjnfammaaGreatSG2
import Derived.Test.YtocebjbjnfammaaGreatSG3
import Derived.Test.YtocebjbjnfammaaGreatSG5
import Derived.Deep.RegionHeld3
import Derived.BigRegion
import Derived.Test.YtocebjbjnfammaaGreatSG8
import Derived.Test.YtocebjbjnfammaaGreatSG4
import Derived.Deep.RegionLaw
import Derived.Deep.CutRange
import Derived.Test.YtocebjbjnfammaaGreatSG1
set_option maxRecDepth 4096
set_option maxHeartbeats 16000000
namespace Go.Proofs.YtocebjbjnfammaaGreat
open Go.RowKit
theorem Wds.take{w:World}{a:Option Addr}{n cap:Nat}{ls:List (List Nat)}(h:Wds w a n cap ls){k:Nat}(hk:k≤n):Wds w a k cap (ls.take k):=by
 obtain⟨h1,h2,h3,h4,h5⟩:=h
 refine ⟨by rw[List.length_take];omega,by omega,h3,h4,?_⟩
 rcases h5 with h0 | ⟨b,off,e,hc⟩
 ·exact .inl (by omega)
 ·refine .inr ⟨b,off,e,fun j hj=>?_⟩
  obtain⟨a',n',c',h6,h7⟩:=hc j (by omega)
  refine ⟨a',n',c',h6,?_⟩
  rwa [List.getD_eq_getElem?_getD,List.getElem?_take,if_pos hj,←List.getD_eq_getElem?_getD]
theorem Wds.drop{w:World}{b off m cap q:Nat}{ls:List (List Nat)}(h:Wds w (some ⟨b,off,none⟩) (q+m) cap ls):Wds w (some ⟨b,off+q,none⟩) m (cap - q) (ls.drop q):=by
 have h1:=h.bound
 have h2:=h.len
 refine ⟨by rw[List.length_drop];omega,by omega,by omega,fun e=>(by cases e),?_⟩
 rcases h.2.2.2.2 with h0 | ⟨b',off',e,hc⟩
 ·exact .inl (by omega)
 ·simp only[Option.some.injEq,Addr.mk.injEq,and_true] at e
  obtain⟨rfl,rfl⟩:=e
  refine .inr ⟨b,off+q,rfl,fun j hj=>?_⟩
  obtain⟨a',n',c',h6,h7⟩:=hc (q+j) (by omega)
  exact⟨a',n',c',by rw[Nat.add_assoc];exact h6,by rwa [List.getD_eq_getElem?_getD,List.getElem?_drop,←List.getD_eq_getElem?_getD]⟩
theorem qc_(a:OA_)(n cap:Nat)(l:List Nat)(x c0:Nat)(w:World)(h:Wd w a n cap l)(hn:n≤4194304000000)(hx:x < 4294967296)(hc0:c0 < 4294967296) :
 Calls Tryz.prog 172 #[.slice a n cap,.int .u32 (x:Int),.int .u32 (c0:Int)] w (Lst (dg (val l * x+c0)) w):=by
 obtain⟨i0,hi,hz0,hz1,hz2⟩:=info_parts g7_
 have H:=hd_ h
 clear h
 go_enter Tryz.func172,Tryz.ntmps172
 go_wp2_with (at_make;refine b6_ _ rfl _ _ 25 rfl w.heap.size 81 i0 (.int .u32 0) Tryz.underlying25 hi hz0 hz1 rfl .i64 .i64 _ _ 0 (n+1) rfl rfl (by omega) (by omega) (by omega) (by rw[hz2];omega) (by unfold maxLen;omega) (Nat.le_refl _) ?_;intro w1 hown1 hgrow1)
 rw[dt_] at hown1
 have HO1:Hid (Own w1 w.heap.size w.heap.size 0 (n+1) []):=hd_ ⟨hown1,f3_⟩
 have hB1:Below w.heap.size w w1:=(Below.refl _ _).grown hgrow1 (Nat.le_refl _) (fun k hk=>by cases hk)
 clear hown1 hgrow1
 go_loopw [7,8,19] (fun s cv i wr=>∃(j c g cap2:Nat) (o:List Nat),j≤n∧i=.int .i64 (j:Int)∧cv=.int .u32 (c:Int)∧c < 4294967296∧s=.slice (some ⟨g,0,none⟩) j cap2∧Hid (o.length=j)∧Hid (val o+4294967296 ^ j * c=low l j * x+c0)∧Hid (Own wr w.heap.size g j cap2 o)∧Below w.heap.size w wr) (fun _ _ i _=>n - (intOf i).toNat)
 case atStart=>exact⟨0,c0,_,_,[],by omega,rfl,rfl,hc0,rfl,hd_ rfl,hd_ (by rw[cc_];simp[val]),HO1,hB1⟩
 case round=>
  clear HO1 hB1
  obtain⟨j,c,g,cap2,o,hj,rfl,rfl,hc,rfl,Hol,Hv,HO,hB⟩:=hrel
  have hbase:w.heap.size≤wr.heap.size:=hB.size
  by_cases hlt:j < n
  ·obtain⟨b,off,rfl,hcl⟩:=(H.out.later hB).at (by omega)
   have hck:=hcl j hlt
   have hyw:=bk_ H.out.ok j
   obtain⟨y,hyy⟩:∃y,y=atw l j:=⟨_,rfl⟩
   rw[←hyy] at hyw hck
   have Hy:=hd_ hyy
   have hj1:(j:Int) < (n:Int):=by omega
   clear hcl hyy
   go_wp2_with fail
   refine (pe_ y x c _ hyw hx hc).mono ?_
   rintro e w' ⟨c2,z,rfl,hc2,hz,Hs,rfl⟩
   go_wp2_with (at_builtin;refine wpList_append_own _ rfl _ _ 25 rfl w.heap.size 81 i0 (.int .u32 0) 1 4 Tryz.underlying25 hi hz0 hz1 hz2 rfl (by decide) _ j _ rfl (HO.out.1.alloc _) ⟨wr.heap.size,0,none⟩ 1 1 (b7_ [z]) rfl rfl (Wd.lit1 wr 81 (x:=z) hz).cells (dz_ _) (by unfold maxLen;omega) (by omega) (by simp;omega) ?_)
   intro v' w2 hown hgrow _
   obtain⟨g2,cap3,rfl,HO2⟩:=Own.push (r:=z) hown HO.out.2 hz
   have HO':=hd_ HO2
   have hb:=HO.out.base
   have hB1:Below w.heap.size w w2:=(hB.alloc hbase _).grown hgrow (by simp;omega) (by intro k hk;simp[Value.ownBlock] at hk;omega)
   clear HO2 hown hgrow
   go_wp2
   go_roundw
   case rel=>exact⟨j+1,c2,g2,cap3,o ++ [z],by omega,by go_num,rfl,hc2,rfl,hd_ (by have:=Hol.out;simp;omega),hd_ (word_step Hol.out Hv.out (by rw[←Hy.out];exact Hs.out)),HO',hB1⟩
   case measure=>simp[intOf];omega
  ·obtain rfl:j=n:=by omega
   have Hv2:Hid (val (o ++ [c])=val l * x+c0):=hd_ (by rw[eu_,Hol.out,Hv.out,eg_ (by rw[H.out.len];omega)])
   clear hlt Hv
   go_wp2_with (at_builtin;refine wpList_append_own _ rfl _ _ 25 rfl w.heap.size 81 i0 (.int .u32 0) 1 4 Tryz.underlying25 hi hz0 hz1 hz2 rfl (by decide) _ j _ rfl (HO.out.1.alloc _) ⟨_,0,none⟩ 1 1 (b7_ [c]) rfl rfl (Wd.lit1 _ 81 (x:=c) hc).cells (dz_ _) (by unfold maxLen;omega) (by omega) (by simp;omega) ?_)
   intro v' w2 hown hgrow _
   obtain⟨g2,cap3,rfl,HO2⟩:=Own.push (r:=c) hown HO.out.2 hc
   have HO':=hd_ HO2
   have hb:=HO.out.base
   have hB1:Below w.heap.size w w2:=(hB.alloc hbase _).grown hgrow (by simp;omega) (by intro k hk;simp[Value.ownBlock] at hk;omega)
   clear HO2 hown hgrow
   go_wp2_with fail
   refine (natSaid.norm _ _ _ _ _ HO'.out.wd (by omega)).mono ?_
   rintro e w' ⟨a',n',c',rfl,hwd,hbel⟩
   rw[Hv2.out] at hwd
   have HWD:=hd_ hwd
   clear hwd
   go_wp2
   go_ret
   exact⟨_,_,_,rfl,HWD.out,ab_ hB1 hbel⟩


theorem h9_{w:World}{g:Nat}{o:Obj}(h:w.heap[g]? = some o):g < w.heap.size:=(Array.getElem?_eq_some_iff.1 h).1
theorem k4_(a:OA_)(n c:Nat)(qs:LR_)(i:Nat)(w:World)(h:Rw w a n c qs):Calls Tryz.prog 123 #[.slice a n c,.int .i64 (i:Int)] w (LstQ (co qs i) w):=by
 have hbd:=h.bound
 have HB:=hd_ (aa_ w (.cells #[.bool false,.slice none 0 0,.slice none 0 0] 27))
 have HR:=hd_ (ai_ w #[.bool false,.slice none 0 0,.slice none 0 0] 27)
 have f0:=ad_ HR.out 0
 have f1:=ad_ HR.out 1
 have f2:=ad_ HR.out 2
 by_cases hi:i < n
 ·obtain⟨b,off,rfl,a1,n1,c1,b1,m1,d1,he,hA,hD⟩:=h.at hi
  have hco:qs.getD i 0=co qs i:=rfl
  rw[hco] at hA hD he
  generalize co qs i=q at *
  have hki:(i:Int) < (n:Int):=by omega
  obtain⟨e0,e1,e2⟩:=aq_ he HB.out
  have ba:=aa_ w (.cells #[.bool (zneg q.num),.slice a1 n1 c1,.slice b1 m1 d1] 27)
  have R9:=hd_ (ai_ w #[.bool (zneg q.num),.slice a1 n1 c1,.slice b1 m1 d1] 27)
  have S9:=hA.l_ ba
  have T9:=hD.l_ ba
  have G9:=hd_ ba
  clear h hA hD he ba f0 f1 f2 HR HB
  go_enter Tryz.func123,Tryz.ntmps123
  go_wp2
  refine bodyPost_ret (results_cell_row Tryz.results123 _ _ (w.heap.size) 27 #[.bool (zneg q.num),.slice a1 n1 c1,.slice b1 m1 d1] (0,0) _ rfl R9.out Tryz.underlying27 rfl (by kernel_rfl)) rfl ?_
  exact⟨a1,n1,c1,b1,m1,d1,rfl,S9.out,T9.out,G9.out⟩
 ·have hki:¬(i:Int) < (n:Int):=by omega
  have hc:co qs i=((0:Int):Rat):=by rw[dk_ (by rw[h.len];omega)];rfl
  rw[hc]
  obtain⟨q,hq⟩:∃q:Rat,((0:Int):Rat)=q:=⟨_,rfl⟩
  rw[hq]
  have HI:∀w':World,Calls Tryz.prog 15 #[.int .i64 0] w' (LstQ q w'):=fun w'=>hq▸cz_ 0 w' c3_
  clear h hc hq
  go_enter Tryz.func123,Tryz.ntmps123
  go_wp2_with fail
  refine (HI _).mono ?_
  rintro e w1 ⟨a1,n1,c1,b1,m1,d1,rfl,hA,hD,b⟩
  replace HB:=bt_ HB b
  replace HR:=bl_ HR b
  clear f0 f1 f2 b
  have f0:=ad_ HR.out 0
  have f1:=ad_ HR.out 1
  have f2:=ad_ HR.out 2
  obtain⟨y0,y1,y2⟩:=as_ HR.out
  have R9:=hd_ (bm_ HR.out (.bool (zneg q.num)) (.slice a1 n1 c1) (.slice b1 m1 d1))
  have S9:=hd_ (hA.stored3 HR.out (zneg q.num) a1 n1 c1 (.slice b1 m1 d1))
  have T9:=hd_ (hD.stored3 HR.out (zneg q.num) a1 n1 c1 (.slice b1 m1 d1))
  have G9:=hd_ (az_ HB.out (Nat.le_refl _) (.bool (zneg q.num)) (.slice a1 n1 c1) (.slice b1 m1 d1))
  clear hA hD HR HB HI
  unfold frV
  go_wp2
  refine bodyPost_ret (results_cell_row Tryz.results123 _ _ (w.heap.size) 27 #[.bool (zneg q.num),.slice a1 n1 c1,.slice b1 m1 d1] (0,0) _ rfl R9.out Tryz.underlying27 rfl (by kernel_rfl)) rfl ?_
  exact⟨a1,n1,c1,b1,m1,d1,rfl,S9.out,T9.out,G9.out⟩
theorem g4_(v:Value)(z:Rat)(a:OA_)(n c:Nat)(qs:LR_)(w:World)(hv:Rt w v z 2000000000)(h:Rw w a n c qs)(hn:n≤1000)(hq:∀q∈qs,qlen q≤2000000000) :
 Calls Tryz.prog 55 #[v,.slice a n c] w (b8_ (ah_ (ag_ z qs)) w):=by
 have hlz:qlen z≤2000000000:=by
  obtain⟨a1,n1,c1,b1,m1,d1,_,h1,h2,h3,h4⟩:=hv
  exact fj_ (by rw[h1.len];exact h3) (by rw[h2.len];exact h4)
 have HL:Hid (∀q∈ag_ z qs,qlen q≤15728640000):=hd_ (fun q h9=>Nat.le_trans (ex_ hlz hq q h9) (by decide))
 have HN:Hid ((ag_ z qs).length≤1000):=hd_ (by rw[be_,h.len];exact hn)
 have HQ:=hd_ hq
 have HLn:=hd_ h.len
 obtain⟨T,hT⟩:∃T,ag_ z qs=T:=⟨_,rfl⟩
 have HS:∀(w':World) (v':Value),Rt w' v' z 2000000000→Rw w' a n c qs→Calls Tryz.prog 100 #[v',.slice a n c] w' (b8_ T w'):=fun w' v' h8 h9=>hT▸kq_ v' z a n c qs w' h8 h9 hn HQ.out
 rw[hT] at HL HN ⊢
 obtain⟨va,vn,vc,vb,vm,vd,rfl,hv1,hv2,hv3,hv4⟩:=hv
 have HB:=hd_ (aa_ w (.cells #[.bool (zneg z.num),.slice va vn vc,.slice vb vm vd] 27))
 have X0:=hd_ (ai_ w #[.bool (zneg z.num),.slice va vn vc,.slice vb vm vd] 27)
 have HV:=hd_ (Rt.of (q:=z) (hv1.later HB.out) (hv2.later HB.out) hv3 hv4)
 have HR:=hd_ (h.later HB.out)
 obtain⟨x0,x1,x2⟩:=as_ X0.out
 clear h hq hlz hT hv1 hv2 X0
 go_enter Tryz.func55,Tryz.ntmps55
 unfold frV at HV ⊢
 go_wp2_with fail
 refine (HS _ _ HV.out HR.out).mono ?_
 rintro e w1 ⟨a1,n1,c1,rfl,h1,b⟩
 have hn1:n1≤1000:=by rw[←h1.len];exact HN.out
 replace HB:=bt_ HB b
 have HT:=hd_ h1
 clear b h1 x0 x1 x2 HR HV HS
 go_wp2_with fail
 refine (ea_ a1 n1 c1 T _ HT.out hn1 HL.out).mono ?_
 rintro e w2 ⟨a2,n2,c2,rfl,h2,b⟩
 replace HB:=bt_ HB b
 have HT2:=hd_ h2
 clear b h2 HT
 go_wp2
 go_ret
 exact⟨a2,n2,c2,rfl,HT2.out,HB.out⟩
theorem l7_(a:OA_)(n c:Nat)(ps:LR_)(b:OA_)(m d:Nat)(rs:LR_)(w:World)(h:Rw w a n c ps)(k:Rw w b m d rs)(hn:n≤500)(hm:m≤500)(hp:∀q∈ps,qlen q≤5000000000)(hr:∀q∈rs,qlen q≤5000000000) :
 Calls Tryz.prog 84 #[.slice a n c,.slice b m d] w (b8_ (ah_ (padd ps rs)) w):=by
 have hbd:=h.bound
 have hbd2:=k.bound
 have HK:=hd_ h
 have HM:=hd_ k
 have hl1:=h.len
 have hl2:=k.len
 obtain⟨N,hN⟩:∃N,max n m=N:=⟨_,rfl⟩
 have hnN:n≤N:=by omega
 have hmN:m≤N:=by omega
 have hN5:N≤500:=by omega
 have hNn:N=n∨N=m:=by omega
 obtain⟨T,hT⟩:∃T,tab N (fun i=>co ps i+co rs i)=T:=⟨_,rfl⟩
 have HTL:Hid (T.length=N):=hd_ (by rw[←hT,h7_])
 have HTA:Hid (∀k,k < N→T.getD k 0=co ps k+co rs k):=hd_ (fun k hk=>by rw[←hT,s9_ hk])
 have HLP:Hid (∀i,qlen (co ps i)≤5000000000):=hd_ (cr_ (by decide) hp)
 have HLR:Hid (∀i,qlen (co rs i)≤5000000000):=hd_ (cr_ (by decide) hr)
 have HTQ:Hid (∀q∈T,qlen q≤15728640000):=hd_ (fun q hq=>by
  obtain⟨i,_,rfl⟩:=tab_mem (hT▸hq)
  have h1:=gz_ (co ps i) (co rs i)
  have h2:=HLP.out i
  have h3:=HLR.out i
  omega)
 have HPN:Hid (ah_ T=ah_ (padd ps rs)):=hd_ (by rw[←hT,←hN,←hl1,←hl2];exact bu_ (tab_padd ps rs))
 rw[←HPN.out]
 have HNN:=hd_ hNn
 clear hT hN h k hp hr hl1 hl2 HPN hNn
 obtain⟨i0,hi,hz0,hz1,hz2⟩:=info_parts eb_
 go_enter Tryz.func84,Tryz.ntmps84
 go_wp2
 go_loopw [5,6] (fun mv iv wr=>∃k:Nat,k≤N∧iv=.int .i64 (k:Int)∧Hid (Row wr w.heap.size 27 mv (T.take k))∧Hid (Below w.heap.size w wr)∧w.heap.size≤wr.heap.size) (fun _ iv _=>N - (intOf iv).toNat)
 case atStart=>exact⟨0,by omega,rfl,hd_ (Row.nil _ _ _),hd_ (Below.refl _ _),by omega⟩
 case round=>
  obtain⟨k,hk,rfl,HO,HB,hsz⟩:=hrel
  by_cases hka:k < n
  ·have hki:(k:Int) < (n:Int):=by omega
   have HT:Hid (T.take (k+1)=T.take k ++ [T.getD k 0]):=hd_ (gk_ (by rw[HTL.out];omega))
   have HTv:Hid (T.getD k 0=co ps k+co rs k):=hd_ (HTA.out k (by omega))
   have hkL:(T.take k).length≤1000000:=by rw[cq_ (by rw[HTL.out];omega)];omega
   have hla:=HLP.out k
   have hlb:=HLR.out k
   generalize T.getD k 0=tk at *
   have HA9:=k4_ a n c ps k wr (HK.out.later HB.out)
   have HB9:=fun (w':World) (h9:Rw w' b m d rs)=>k4_ b m d rs k w' h9
   generalize co ps k=p at *
   generalize co rs k=r at *
   go_wp2_with fail
   refine HA9.mono ?_
   rintro e w3 ⟨a3,n3,c3,b3,m3,d3,rfl,h3,g3,bw⟩
   have hn3:n3≤5000000000:=by rw[←h3.len];exact Nat.le_trans (a8_ _) hla
   have hm3:m3≤5000000000:=by rw[←g3.len];exact Nat.le_trans (a7_ _) hla
   clear HA9
   replace HB:=bt_ HB bw
   replace HO:=HO.l_ bw
   replace hsz:=Nat.le_trans hsz bw.size
   have A3:=hd_ h3
   have D3:=hd_ g3
   clear bw h3 g3
   go_wp2_with fail
   refine (HB9 _ (HM.out.later HB.out)).mono ?_
   rintro e w4 ⟨a4,n4,c4,b4,m4,d4,rfl,h4,g4,bw⟩
   have hn4:n4≤5000000000:=by rw[←h4.len];exact Nat.le_trans (a8_ _) hlb
   have hm4:m4≤5000000000:=by rw[←g4.len];exact Nat.le_trans (a7_ _) hlb
   clear HB9
   replace HB:=bt_ HB bw
   replace HO:=HO.l_ bw
   replace hsz:=Nat.le_trans hsz bw.size
   replace A3:=A3.l_ bw
   replace D3:=D3.l_ bw
   have A4:=hd_ h4
   have D4:=hd_ g4
   clear bw h4 g4
   go_wp2_with fail
   refine (ip_ _ _ p r _ (Rt.of A3.out D3.out (by omega) (by omega)) (Rt.of A4.out D4.out (by omega) (by omega))).mono ?_
   rintro e w5 ⟨a5,n5,c5,b5,m5,d5,rfl,h5,g5,bw⟩
   rw[←HTv.out] at h5 g5 ⊢
   clear A3 D3 A4 D4
   replace HB:=bt_ HB bw
   replace HO:=HO.l_ bw
   replace hsz:=Nat.le_trans hsz bw.size
   have A5:=hd_ h5
   have D5:=hd_ g5
   clear bw h5 g5
   unfold frV
   have ba:=aa_ w5 (.cells #[.bool (zneg tk.num),.slice a5 n5 c5,.slice b5 m5 d5] 27)
   have HOa:=HO.l_ ba
   have HBa:=hd_ (ab_ HB.out ba)
   have AA:=A5.l_ ba
   have DA:=D5.l_ ba
   clear ba HO HB A5 D5
   go_wp2_with (at_builtin;refine c4_ _ rfl _ _ 22 rfl w.heap.size 27 i0 Tryz.underlying22 hi hz0 hz1 hz2 _ (T.take k) rfl HOa.out ⟨w5.heap.size,0,none⟩ tk a5 n5 c5 b5 m5 d5 rfl (gy_ _ _ _ _ _ _ _ _ _) AA.out DA.out hkL (by rw[al_];omega) ?_)
   intro mv6 w6 hrow hgrow hbase hcl
   have HO5:Hid (Row w6 w.heap.size 27 mv6 (T.take (k+1))):=hd_ (by rw[HT.out];exact hrow)
   have HB5:=hd_ (HBa.out.grown hgrow (by rw[al_];omega) hbase)
   have hsz5:w.heap.size≤w6.heap.size:=Nat.le_trans (by rw[al_];omega) hgrow.size
   clear hrow hgrow hbase hcl HOa HBa AA DA HT
   go_wp2
   go_roundw
   case rel=>exact⟨k+1,by omega,by go_num,HO5,HB5,hsz5⟩
   case measure=>simp[intOf];omega
  ·have hki:¬(k:Int) < (n:Int):=by omega
   by_cases hkm:k < m
   ·have hkj:(k:Int) < (m:Int):=by omega
    have HT:Hid (T.take (k+1)=T.take k ++ [T.getD k 0]):=hd_ (gk_ (by rw[HTL.out];omega))
    have HTv:Hid (T.getD k 0=co ps k+co rs k):=hd_ (HTA.out k (by omega))
    have hkL:(T.take k).length≤1000000:=by rw[cq_ (by rw[HTL.out];omega)];omega
    have hla:=HLP.out k
    have hlb:=HLR.out k
    generalize T.getD k 0=tk at *
    have HA9:=k4_ a n c ps k wr (HK.out.later HB.out)
    have HB9:=fun (w':World) (h9:Rw w' b m d rs)=>k4_ b m d rs k w' h9
    generalize co ps k=p at *
    generalize co rs k=r at *
    go_wp2_with fail
    refine HA9.mono ?_
    rintro e w3 ⟨a3,n3,c3,b3,m3,d3,rfl,h3,g3,bw⟩
    have hn3:n3≤5000000000:=by rw[←h3.len];exact Nat.le_trans (a8_ _) hla
    have hm3:m3≤5000000000:=by rw[←g3.len];exact Nat.le_trans (a7_ _) hla
    clear HA9
    replace HB:=bt_ HB bw
    replace HO:=HO.l_ bw
    replace hsz:=Nat.le_trans hsz bw.size
    have A3:=hd_ h3
    have D3:=hd_ g3
    clear bw h3 g3
    go_wp2_with fail
    refine (HB9 _ (HM.out.later HB.out)).mono ?_
    rintro e w4 ⟨a4,n4,c4,b4,m4,d4,rfl,h4,g4,bw⟩
    have hn4:n4≤5000000000:=by rw[←h4.len];exact Nat.le_trans (a8_ _) hlb
    have hm4:m4≤5000000000:=by rw[←g4.len];exact Nat.le_trans (a7_ _) hlb
    clear HB9
    replace HB:=bt_ HB bw
    replace HO:=HO.l_ bw
    replace hsz:=Nat.le_trans hsz bw.size
    replace A3:=A3.l_ bw
    replace D3:=D3.l_ bw
    have A4:=hd_ h4
    have D4:=hd_ g4
    clear bw h4 g4
    go_wp2_with fail
    refine (ip_ _ _ p r _ (Rt.of A3.out D3.out (by omega) (by omega)) (Rt.of A4.out D4.out (by omega) (by omega))).mono ?_
    rintro e w5 ⟨a5,n5,c5,b5,m5,d5,rfl,h5,g5,bw⟩
    rw[←HTv.out] at h5 g5 ⊢
    clear A3 D3 A4 D4
    replace HB:=bt_ HB bw
    replace HO:=HO.l_ bw
    replace hsz:=Nat.le_trans hsz bw.size
    have A5:=hd_ h5
    have D5:=hd_ g5
    clear bw h5 g5
    unfold frV
    have ba:=aa_ w5 (.cells #[.bool (zneg tk.num),.slice a5 n5 c5,.slice b5 m5 d5] 27)
    have HOa:=HO.l_ ba
    have HBa:=hd_ (ab_ HB.out ba)
    have AA:=A5.l_ ba
    have DA:=D5.l_ ba
    clear ba HO HB A5 D5
    go_wp2_with (at_builtin;refine c4_ _ rfl _ _ 22 rfl w.heap.size 27 i0 Tryz.underlying22 hi hz0 hz1 hz2 _ (T.take k) rfl HOa.out ⟨w5.heap.size,0,none⟩ tk a5 n5 c5 b5 m5 d5 rfl (gy_ _ _ _ _ _ _ _ _ _) AA.out DA.out hkL (by rw[al_];omega) ?_)
    intro mv6 w6 hrow hgrow hbase hcl
    have HO5:Hid (Row w6 w.heap.size 27 mv6 (T.take (k+1))):=hd_ (by rw[HT.out];exact hrow)
    have HB5:=hd_ (HBa.out.grown hgrow (by rw[al_];omega) hbase)
    have hsz5:w.heap.size≤w6.heap.size:=Nat.le_trans (by rw[al_];omega) hgrow.size
    clear hrow hgrow hbase hcl HOa HBa AA DA HT
    go_wp2
    go_roundw
    case rel=>exact⟨k+1,by omega,by go_num,HO5,HB5,hsz5⟩
    case measure=>simp[intOf];omega
   ·have hkj:¬(k:Int) < (m:Int):=by omega
    obtain rfl:k=N:=by have:=HNN.out;omega
    have HF:=hd_ (HO.out.whole HTL.out)
    obtain⟨a9,c9,rfl,h9⟩:=HF.out.out
    rw[HTL.out] at h9 ⊢
    have HF9:=hd_ h9
    clear h9 HF HO
    go_wp2_with fail
    refine (ea_ a9 k c9 T _ HF9.out (by omega) HTQ.out).mono ?_
    rintro e w2 ⟨a2,n2,c2,rfl,h2,b⟩
    replace HB:=bt_ HB b
    have HT2:=hd_ h2
    clear b h2 HF9
    go_wp2
    go_ret
    exact⟨a2,n2,c2,rfl,HT2.out,HB.out⟩
theorem ref14_sub(a:OA_)(n c:Nat)(ps:LR_)(b:OA_)(m d:Nat)(rs:LR_)(w:World)(h:Rw w a n c ps)(k:Rw w b m d rs)(hn:n≤500)(hm:m≤500)(hp:∀q∈ps,qlen q≤5000000000)(hr:∀q∈rs,qlen q≤2000000000) :
 Calls Tryz.prog 79 #[.slice a n c,.slice b m d] w (b8_ (ah_ (psub ps rs)) w):=by
 obtain⟨z,hz⟩:∃z:Rat,((-1:Int):Rat)=z:=⟨_,rfl⟩
 have hz1:z = -1:=by rw[←hz];rfl
 have hlz:qlen z≤2:=hz▸br_ (by decide)
 have HZ:∀w':World,Calls Tryz.prog 15 #[.int .i64 (-1)] w' (LstQ z w'):=fun w'=>hz▸cz_ (-1) w' (by decide)
 obtain⟨S,hS⟩:∃S,ah_ (ag_ z rs)=S:=⟨_,rfl⟩
 have HSL:Hid (S.length≤500):=hd_ (by rw[←hS];exact Nat.le_trans (ax_ _) (by rw[be_,k.len];exact hm))
 have HSQ:Hid (∀q∈S,qlen q≤5000000000):=hd_ (fun q hq=>by rw[←hS] at hq;exact Nat.le_trans (ex_ hlz hr q (gt_ hq)) (by decide))
 have HSC:∀(w':World) (v':Value),Rt w' v' z 2→Rw w' b m d rs→Calls Tryz.prog 55 #[v',.slice b m d] w' (b8_ S w'):=fun w' v' h8 h9=>hS▸g4_ v' z b m d rs w' (by obtain⟨x1,x2,x3,x4,x5,x6,y0,y1,y2,y3,y4⟩:=h8;exact⟨x1,x2,x3,x4,x5,x6,y0,y1,y2,by omega,by omega⟩) h9 (by omega) hr
 have HAD:∀(w':World) (a':OA_) (n' c':Nat),n'≤500→Rw w' a n c ps→Rw w' a' n' c' S→Calls Tryz.prog 84 #[.slice a n c,.slice a' n' c'] w' (b8_ (ah_ (psub ps rs)) w'):=fun w' a' n' c' h7 h8 h9=>by
  have h6:=l7_ a n c ps a' n' c' S w' h8 h9 hn h7 hp HSQ.out
  rwa [show ah_ (padd ps S)=ah_ (psub ps rs) from bu_ (c5_ (peq.refl _) (by rw[←hS,hz1];exact ar_ _))] at h6
 generalize ah_ (psub ps rs)=D at *
 have HL2:Hid (qlen z≤2):=hd_ hlz
 have HA:=hd_ h
 have HK:=hd_ k
 have HB:=hd_ (Below.refl w.heap.size w)
 clear hz hz1 hS h k hp hr hlz HSQ
 go_enter Tryz.func79,Tryz.ntmps79
 go_wp2_with fail
 refine (HZ _).mono ?_
 rintro e w1 ⟨a1,n1,c1,b1,m1,d1,rfl,h1,g1,bw⟩
 have hn1:n1≤2:=by rw[←h1.len];exact Nat.le_trans (a8_ _) HL2.out
 have hm1:m1≤2:=by rw[←g1.len];exact Nat.le_trans (a7_ _) HL2.out
 replace HB:=bt_ HB bw
 have A1:=hd_ h1
 have D1:=hd_ g1
 clear bw h1 g1 HZ
 go_wp2_with fail
 refine (HSC _ _ (Rt.of A1.out D1.out hn1 hm1) (HK.out.later HB.out)).mono ?_
 rintro e w2 ⟨a2,n2,c2,rfl,h2,bw⟩
 have hn2:n2≤500:=by rw[←h2.len];exact HSL.out
 replace HB:=bt_ HB bw
 have A2:=hd_ h2
 clear bw h2 A1 D1 HSC
 go_wp2_with fail
 refine (HAD _ a2 n2 c2 hn2 (HA.out.later HB.out) A2.out).mono ?_
 rintro e w3 ⟨a3,n3,c3,rfl,h3,bw⟩
 replace HB:=bt_ HB bw
 have A3:=hd_ h3
 clear bw h3 A2 HAD
 go_wp2
 go_ret
 exact⟨a3,n3,c3,rfl,A3.out,HB.out⟩
theorem ir_(a:OA_)(n c:Nat)(ps:LR_)(b:OA_)(m d:Nat)(rs:LR_)(w:World)(h:Rw w a n c ps)(k:Rw w b m d rs)(hn:n≤400)(hm:m≤400)(hp:∀q∈ps,qlen q≤15728640000)(hr:∀q∈rs,qlen q≤15728640000)
 (hM:∀k i,qlen (ez_ ps rs k i)≤15728640000) (hS:∀k i,qlen (b5_ i (ez_ ps rs k))≤15728640000) :
 Calls Tryz.prog 80 #[.slice a n c,.slice b m d] w (b8_ (ah_ (pmul ps rs)) w):=by
 have hbd:=h.bound
 have hbd2:=k.bound
 have HK:=hd_ h
 have HM:=hd_ k
 have HPL:=hd_ h.len
 have HRL:=hd_ k.len
 have HLP:=hd_ hp
 have HLR:=hd_ hr
 have HLM:=hd_ hM
 have HLS:=hd_ hS
 obtain⟨N,hN⟩:∃N,n+m=N:=⟨_,rfl⟩
 obtain⟨T,hT⟩:∃T,tab N (fun k=>b5_ (k+1) (ez_ ps rs k))=T:=⟨_,rfl⟩
 have HTL:Hid (T.length=N):=hd_ (by rw[←hT,h7_])
 have HTA:Hid (∀k,k < N→T.getD k 0=b5_ (k+1) (ez_ ps rs k)):=hd_ (fun k hk=>by rw[←hT,s9_ hk])
 have HTQ:Hid (∀q∈T,qlen q≤15728640000):=hd_ (fun q hq=>by
  obtain⟨i,_,rfl⟩:=tab_mem (hT▸hq)
  exact HLS.out i (i+1))
 have HPN:Hid (ah_ T=ah_ (pmul ps rs)):=hd_ (by rw[←hT,←hN,←HPL.out,←HRL.out];exact bu_ (tab_pmul ps rs))
 rw[←HPN.out]
 have hN8:N≤800:=by omega
 have HNN:=hd_ hN
 obtain⟨z0,hz0⟩:∃z:Rat,((0:Int):Rat)=z:=⟨_,rfl⟩
 have HI0:∀w':World,Calls Tryz.prog 15 #[.int .i64 0] w' (LstQ z0 w'):=fun w'=>hz0▸cz_ 0 w' c3_
 have HS0:Hid (z0=0):=hd_ (by rw[←hz0];rfl)
 clear hT hN h k hp hr hM hS HPN hz0
 obtain⟨i0,hi,hz0,hz1,hz2⟩:=info_parts eb_
 go_enter Tryz.func80,Tryz.ntmps80
 go_wp2
 go_loopw [5,6] (fun mv iv wr=>∃k:Nat,k≤N∧iv=.int .i64 (k:Int)∧Hid (Row wr w.heap.size 27 mv (T.take k))∧Hid (Below w.heap.size w wr)∧w.heap.size≤wr.heap.size) (fun _ iv _=>N - (intOf iv).toNat)
 case atStart=>exact⟨0,by omega,rfl,hd_ (Row.nil _ _ _),hd_ (Below.refl _ _),by omega⟩
 case round=>
  obtain⟨k,hk,rfl,HO,HB,hsz⟩:=hrel
  by_cases hlt:k < N
  ·have hki:(k:Int) < (n:Int)+(m:Int):=by have:=HNN.out;omega
   go_wp2_with fail
   refine (HI0 _).mono ?_
   rintro e w1 ⟨a1,n1,c1,b1,m1,d1,rfl,h1,g1,bw⟩
   have HB1:=hd_ (ab_ HB.out bw)
   have HO1:=HO.l_ bw
   have hsz1:=Nat.le_trans hsz bw.size
   unfold frV
   have ba:=aa_ w1 (.cells #[.bool (zneg z0.num),.slice a1 n1 c1,.slice b1 m1 d1] 27)
   have S0:=hd_ (ai_ w1 #[.bool (zneg z0.num),.slice a1 n1 c1,.slice b1 m1 d1] 27)
   have SA:=h1.l_ ba
   have SD:=g1.l_ ba
   have HI:=hd_ ba
   clear bw ba h1 g1 HB HO hsz
   go_wp2
   go_loopw [8] (fun jv wr=>∃(j:Nat) (s:Rat) (a1:OA_) (n1 c1:Nat) (b1:OA_) (m1 d1:Nat),j≤n∧j≤k+1∧jv=.int .i64 (j:Int)∧Hid (b5_ j (ez_ ps rs k)=s)∧
    Hid (wr.heap[w1.heap.size]? = some (.cells #[.bool (zneg s.num),.slice a1 n1 c1,.slice b1 m1 d1] 27 (0,0)))∧Hid (Wd wr a1 n1 c1 (dg s.num.natAbs))∧Hid (Wd wr b1 m1 d1 (dg s.den))∧Hid (Below w1.heap.size w1 wr)) (fun jv _=>n - (intOf jv).toNat)
   case atStart=>exact⟨0,z0,a1,n1,c1,b1,m1,d1,by omega,by omega,rfl,hd_ (by rw[HS0.out];rfl),S0,SA,SD,HI⟩
   case round=>
    clear S0 SA SD HI
    obtain⟨j,s,a1,n1,c1,b1,m1,d1,hjn,hjk,rfl,HS,S0,SA,SD,HI⟩:=hrel
    by_cases hc1:j < k+1
    ·have hji1:(j:Int)≤(k:Int):=by omega
     by_cases hc2:j < n
     ·obtain⟨e,he9⟩:∃e,k - j=e:=⟨_,rfl⟩
      by_cases hc3:e < m
      ·skip
       obtain⟨bb,off,rfl,a3,n3,c3,b3,m3,d3,he,hA,hD⟩:=HK.out.at hc2
       obtain⟨bc,off2,rfl,a4,n4,c4,b4,m4,d4,he2,hA2,hD2⟩:=HM.out.at hc3
       have hpt:ez_ ps rs k j=ps.getD j 0 * rs.getD e 0:=by rw[←he9];rfl
       have hlq:=HLP.out _ (f4_ (L:=ps) (k:=j) (by have:=HPL.out;omega))
       have hlr:=HLR.out _ (f4_ (L:=rs) (k:=e) (by have:=HRL.out;omega))
       have hLy:=HLM.out k j
       have hLs:=HLS.out k j
       have hS2:b5_ (j+1) (ez_ ps rs k)=s+ez_ ps rs k j:=by rw[←HS.out];rfl
       rw[HS.out] at hLs
       rw[hpt] at hLy hS2
       generalize ps.getD j 0=p at *
       generalize rs.getD e 0=r at *
       obtain⟨y,hy⟩:∃y,p * r=y:=⟨_,rfl⟩
       obtain⟨s2,hs2⟩:∃z,s+y=z:=⟨_,rfl⟩
       rw[hy] at hLy hS2
       rw[hs2] at hS2
       have HS2:=hd_ hS2
       have EY:=hd_ hy
       have E2:=hd_ hs2
       have HYL:=hd_ hLy
       have hn3:n3≤15728640000:=by rw[←hA.len];exact Nat.le_trans (a8_ _) hlq
       have hm3:m3≤15728640000:=by rw[←hD.len];exact Nat.le_trans (a7_ _) hlq
       have hn4:n4≤15728640000:=by rw[←hA2.len];exact Nat.le_trans (a8_ _) hlr
       have hm4:m4≤15728640000:=by rw[←hD2.len];exact Nat.le_trans (a7_ _) hlr
       have hn1:n1≤15728640000:=by rw[←SA.out.len];exact Nat.le_trans (a8_ _) hLs
       have hm1:m1≤15728640000:=by rw[←SD.out.len];exact Nat.le_trans (a7_ _) hLs
       have QA:=hd_ hA
       have QD:=hd_ hD
       have RA:=hd_ hA2
       have RD:=hd_ hD2
       have HE:=hd_ he
       have HE2:=hd_ he2
       have HBi:=hd_ (ab_ HB1.out HI.out)
       have hji:(j:Int) < (n:Int):=by omega
       have hei:(e:Int) < (m:Int):=by omega
       have hkj:(k:Int) - (j:Int)=(e:Int):=by omega
       have hwe:IntKind.i64.wrap (e:Int)=(e:Int):=by rw[IntKind.wrap_i64];omega
       clear hpt hlq hlr hLy hLs hS2 hy hs2 hA hD hA2 hD2 he he2 HS he9
       obtain⟨e0,e1,e2⟩:=aq_ HE.out HBi.out;obtain⟨g0,g1,g2⟩:=aq_ HE2.out HBi.out;obtain⟨x0,x1,x2⟩:=as_ S0.out
       go_wp2
       have b0:Below wr.heap.size wr wr.drew:=(Below.refl _ _).drew
       replace HI:=bt_ HI b0
       replace HBi:=bt_ HBi b0
       replace S0:=bl_ S0 b0
       replace SA:=SA.l_ b0
       replace SD:=SD.l_ b0
       clear e0 e1 e2 x0 x1 x2 g0 g1 g2 b0
       obtain⟨e0,e1,e2⟩:=aq_ HE.out HBi.out;obtain⟨g0,g1,g2⟩:=aq_ HE2.out HBi.out;obtain⟨x0,x1,x2⟩:=as_ S0.out
       go_region_law (first
        | (go_simp;go_at_call 114;refine (mm_ _ _ p r _ (Rt.of (QA.out.later HBi.out) (QD.out.later HBi.out) (by omega) (by omega)) (Rt.of (RA.out.later HBi.out) (RD.out.later HBi.out) (by omega) (by omega))).mono ?_;rintro e w4 ⟨a6,n6,c6,b6,m6,d6,rfl,h6,g6,bw⟩;rw[EY.out] at h6 g6 ⊢;clear e0 e1 e2 x0 x1 x2 g0 g1 g2;replace HI:=bt_ HI bw;replace HBi:=bt_ HBi bw;replace S0:=bl_ S0 bw;replace SA:=SA.l_ bw;replace SD:=SD.l_ bw;have A6:=hd_ h6;have D6:=hd_ g6;have hn6:n6≤15728640000:=Nat.le_trans (Nat.le_of_eq h6.len.symm) (Nat.le_trans (a8_ _) HYL.out);have hm6:m6≤15728640000:=Nat.le_trans (Nat.le_of_eq g6.len.symm) (Nat.le_trans (a7_ _) HYL.out);clear bw h6 g6;unfold frV;obtain⟨e0,e1,e2⟩:=aq_ HE.out HBi.out;obtain⟨g0,g1,g2⟩:=aq_ HE2.out HBi.out;obtain⟨x0,x1,x2⟩:=as_ S0.out)
        | (go_simp;go_at_call 113;refine (ip_ _ _ s y _ (Rt.of SA.out SD.out (by omega) (by omega)) (Rt.of A6.out D6.out (by omega) (by omega))).mono ?_;rintro e w5 ⟨a5,n5,c5,b5,m5,d5,rfl,h5,g5,bw⟩;rw[E2.out] at h5 g5 ⊢;clear e0 e1 e2 x0 x1 x2 g0 g1 g2;replace HI:=bt_ HI bw;replace S0:=bl_ S0 bw;have A5:=hd_ h5;have D5:=hd_ g5;clear bw h5 g5 SA SD A6 D6 HBi;unfold frV;obtain⟨x0,x1,x2⟩:=as_ S0.out;have f0:=ad_ S0.out 0;have f1:=ad_ S0.out 1;have f2:=ad_ S0.out 2))
       all_goals (
        have S9:=hd_ (bm_ S0.out (.bool (zneg s2.num)) (.slice a5 n5 c5) (.slice b5 m5 d5))
        have SA9:=hd_ (A5.out.stored3 S0.out (zneg s2.num) a5 n5 c5 (.slice b5 m5 d5))
        have SD9:=hd_ (D5.out.stored3 S0.out (zneg s2.num) a5 n5 c5 (.slice b5 m5 d5))
        have B9:=hd_ (az_ HI.out (Nat.le_refl _) (.bool (zneg s2.num)) (.slice a5 n5 c5) (.slice b5 m5 d5))
        clear S0 HI A5 D5
        go_wp2
        go_roundw
        case rel=>exact⟨j+1,s2,a5,n5,c5,b5,m5,d5,by omega,by omega,by go_num,HS2,S9,SA9,SD9,B9⟩
        case measure=>simp[intOf];omega)
      ·skip
       have HS2:Hid (b5_ (j+1) (ez_ ps rs k)=s):=hd_ (by
        show b5_ j (ez_ ps rs k)+ez_ ps rs k j=s
        rw[HS.out,pterm_far (by have:=HRL.out;omega),Rat.add_zero])
       have hji:(j:Int) < (n:Int):=by omega
       have hei:¬(e:Int) < (m:Int):=by omega
       have hkj:(k:Int) - (j:Int)=(e:Int):=by omega
       clear HS
       go_wp2
       go_roundw
       case rel=>exact⟨j+1,s,a1,n1,c1,b1,m1,d1,by omega,by omega,by go_num,HS2,S0,SA,SD,HI⟩
       case measure=>simp[intOf];omega
     ·have hji2:¬(j:Int) < (n:Int):=by omega
      have HE:Hid (T.getD k 0=s):=hd_ (by rw[HTA.out k (by omega),m6_ (i:=j) (by omega) (by have:=HPL.out;omega)];exact HS.out)
      have HT:Hid (T.take (k+1)=T.take k ++ [s]):=hd_ (by rw[←HE.out];exact gk_ (by rw[HTL.out];omega))
      have hkL:(T.take k).length≤1000000:=by rw[cq_ (by rw[HTL.out];omega)];omega
      obtain⟨x0,x1,x2⟩:=as_ S0.out
      have HOi:=hd_ (HO1.out.later HI.out)
      have HBi:=hd_ (ab_ HB1.out HI.out)
      have hszi:w.heap.size≤wr.heap.size:=Nat.le_trans hsz1 HI.out.size
      have ba:=aa_ wr (.cells #[.bool (zneg s.num),.slice a1 n1 c1,.slice b1 m1 d1] 27)
      have HOa:=HOi.l_ ba
      have HBa:=hd_ (ab_ HBi.out ba)
      have AA:=SA.l_ ba
      have DA:=SD.l_ ba
      clear ba HOi HBi HO1 HB1 SA SD HS HE HI S0
      go_wp2_with (at_builtin;refine c4_ _ rfl _ _ 22 rfl w.heap.size 27 i0 Tryz.underlying22 hi hz0 hz1 hz2 _ (T.take k) rfl HOa.out ⟨wr.heap.size,0,none⟩ s a1 n1 c1 b1 m1 d1 rfl (gy_ _ _ _ _ _ _ _ _ _) AA.out DA.out hkL (by rw[al_];omega) ?_)
      intro mv6 w6 hrow hgrow hbase hcl
      have HO5:Hid (Row w6 w.heap.size 27 mv6 (T.take (k+1))):=hd_ (by rw[HT.out];exact hrow)
      have HB5:=hd_ (HBa.out.grown hgrow (by rw[al_];omega) hbase)
      have hsz5:w.heap.size≤w6.heap.size:=Nat.le_trans (by rw[al_];omega) hgrow.size
      clear hrow hgrow hbase hcl HOa HBa AA DA HT x0 x1 x2
      go_wp2
      go_roundw
      case rel=>exact⟨k+1,by omega,by go_num,HO5,HB5,hsz5⟩
      case measure=>simp[intOf];omega
    ·have hji1:¬(j:Int)≤(k:Int):=by omega
     have HE:Hid (T.getD k 0=s):=hd_ (by rw[HTA.out k (by omega),m6_ (i:=j) (by omega) (by have:=HPL.out;omega)];exact HS.out)
     have HT:Hid (T.take (k+1)=T.take k ++ [s]):=hd_ (by rw[←HE.out];exact gk_ (by rw[HTL.out];omega))
     have hkL:(T.take k).length≤1000000:=by rw[cq_ (by rw[HTL.out];omega)];omega
     obtain⟨x0,x1,x2⟩:=as_ S0.out
     have HOi:=hd_ (HO1.out.later HI.out)
     have HBi:=hd_ (ab_ HB1.out HI.out)
     have hszi:w.heap.size≤wr.heap.size:=Nat.le_trans hsz1 HI.out.size
     have ba:=aa_ wr (.cells #[.bool (zneg s.num),.slice a1 n1 c1,.slice b1 m1 d1] 27)
     have HOa:=HOi.l_ ba
     have HBa:=hd_ (ab_ HBi.out ba)
     have AA:=SA.l_ ba
     have DA:=SD.l_ ba
     clear ba HOi HBi HO1 HB1 SA SD HS HE HI S0
     go_wp2_with (at_builtin;refine c4_ _ rfl _ _ 22 rfl w.heap.size 27 i0 Tryz.underlying22 hi hz0 hz1 hz2 _ (T.take k) rfl HOa.out ⟨wr.heap.size,0,none⟩ s a1 n1 c1 b1 m1 d1 rfl (gy_ _ _ _ _ _ _ _ _ _) AA.out DA.out hkL (by rw[al_];omega) ?_)
     intro mv6 w6 hrow hgrow hbase hcl
     have HO5:Hid (Row w6 w.heap.size 27 mv6 (T.take (k+1))):=hd_ (by rw[HT.out];exact hrow)
     have HB5:=hd_ (HBa.out.grown hgrow (by rw[al_];omega) hbase)
     have hsz5:w.heap.size≤w6.heap.size:=Nat.le_trans (by rw[al_];omega) hgrow.size
     clear hrow hgrow hbase hcl HOa HBa AA DA HT x0 x1 x2
     go_wp2
     go_roundw
     case rel=>exact⟨k+1,by omega,by go_num,HO5,HB5,hsz5⟩
     case measure=>simp[intOf];omega
  ·have hki:¬(k:Int) < (n:Int)+(m:Int):=by have:=HNN.out;omega
   obtain rfl:k=N:=by omega
   have HF:=hd_ (HO.out.whole HTL.out)
   obtain⟨a9,c9,rfl,h9⟩:=HF.out.out
   rw[HTL.out] at h9 ⊢
   have HF9:=hd_ h9
   clear h9 HF HO
   go_wp2_with fail
   refine (ea_ a9 k c9 T _ HF9.out (by omega) HTQ.out).mono ?_
   rintro e w2 ⟨a2,n2,c2,rfl,h2,b⟩
   replace HB:=bt_ HB b
   have HT2:=hd_ h2
   clear b h2 HF9
   go_wp2
   go_ret
   exact⟨a2,n2,c2,rfl,HT2.out,HB.out⟩
theorem fv_(a:OA_)(n c:Nat)(ps:LR_)(b:OA_)(m d:Nat)(rs:LR_)(N K:Nat)(w:World)(h:Rw w a n c ps)(k:Rw w b m d rs)(hn:n≤400)(hm:m≤400)(hp:∀q∈ps,qlen q≤N)(hr:∀q∈rs,qlen q≤K)(hN:1≤N)(hK:1≤K)(hb:(n+1) * (N+K+8)≤15728640000) :
 Calls Tryz.prog 80 #[.slice a n c,.slice b m d] w (b8_ (ah_ (pmul ps rs)) w):=by
 have h1:N+K+8≤(n+1) * (N+K+8):=Nat.le_mul_of_pos_left _ (by omega)
 have h2:∀k i,qlen (ez_ ps rs k i)≤N+K+1:=fun k i=>Nat.le_trans (cu_ _ _) (Nat.add_le_add_right (Nat.add_le_add (cr_ hN hp i) (cr_ hK hr _)) 1)
 refine ir_ a n c ps b m d rs w h k hn hm (fun q hq=>Nat.le_trans (hp q hq) (by omega)) (fun q hq=>Nat.le_trans (hr q hq) (by omega)) (fun k i=>Nat.le_trans (h2 k i) (by omega)) (fun k i=>?_)
 have h3:∀i,i≤n→qlen (b5_ i (ez_ ps rs k))≤15728640000:=fun i hi=>by
  refine Nat.le_trans (hw_ (T:=N+K+1) i _ (fun j _=>h2 k j)) ?_
  have:i * (N+K+1+2)≤n * (N+K+8):=Nat.mul_le_mul hi (by omega)
  rw[Nat.add_mul] at hb
  omega
 rcases Nat.le_total i n with h4 | h4
 ·exact h3 i h4
 ·rw[fq_ (m:=n) h4 (fun j h5 _=>by unfold ez_;rw[dk_ (by rw[h.len];exact h5),Rat.zero_mul])]
  exact h3 n (Nat.le_refl _)
theorem lt_{w w':World}{p q r p2 q2 r2:Addr}{x y z x2 y2 z2:Value}(h:w.cell? p=some x∧w.cell? q=some y∧w.cell? r=some z)(k:w.cell? p2=some x2∧w.cell? q2=some y2∧w.cell? r2=some z2)(hb:Below w.heap.size w w') :
 w'.cell? p=some x∧w'.cell? q=some y∧w'.cell? r=some z∧w'.cell? p2=some x2∧w'.cell? q2=some y2∧w'.cell? r2=some z2:=⟨cell_later hb h.1,cell_later hb h.2.1,cell_later hb h.2.2,cell_later hb k.1,cell_later hb k.2.1,cell_later hb k.2.2⟩
def LstDivI (A B:LR_) (n:Nat) (I:List Rat→List Rat→Prop) (w:World) (e:Ending) (w':World):Prop:=∃(a:OA_) (n1 c:Nat) (q:LR_) (b:OA_) (m d:Nat) (r:LR_),e=.returned (.tuple #[.slice a n1 c,.slice b m d])∧Rw w' a n1 c q∧Rw w' b m d r∧isDiv A B q r∧ah_ q=q∧ah_ r=r∧r.length≤n∧(∃Q,q=ah_ Q∧I Q r)∧q.length≤n∧Below w.heap.size w w'
theorem ho_(a:OA_)(n c:Nat)(ps:LR_)(b:OA_)(m d:Nat)(rs:LR_)(K T:Nat)(I:List Rat→List Rat→Prop)(w:World)(h:Rw w a n c ps)(k:Rw w b m d rs)(hn:n≤200)(hm:m≤200)(hp:∀q∈ps,qlen q≤15728640000)(hr:∀q∈rs,qlen q≤K)
 (hB:ah_ rs=rs) (h0:0 < m) (hW:DivWay ps rs K T I) (hT:T≤2000000000):Calls Tryz.prog 53 #[.slice a n c,.slice b m d] w (LstDivI ps rs n I w):=by
 have hbd2:=k.bound
 have HM:=hd_ k
 have hl1:=h.len
 have hl2:=k.len
 have HRL:=hd_ hl2
 have HRR:=hd_ hr
 have HBN:=hd_ hB
 have HW:=hd_ hW
 obtain⟨R0,hR0⟩:∃R0,ah_ ps=R0:=⟨_,rfl⟩
 have hR0l:R0.length≤n:=by rw[←hR0];exact Nat.le_trans (ax_ _) (by omega)
 have HR0L:=hd_ hR0l
 have HD0:Hid (peq ps (padd (pmul [] rs) R0)∧ah_ R0=R0∧I [] R0):=hd_ ⟨fun i=>by rw[bf_,pmul,ef_,←hR0,ar_];grind,by rw[←hR0];exact a9_ ps,hR0▸hW.start⟩
 have HNO:Hid (Calls Tryz.prog 49 #[.slice a n c] w (b8_ R0 w)):=hd_ (hR0▸ea_ a n c ps w h (by omega) hp)
 have HB:=hd_ (Below.refl w.heap.size w)
 clear h k hp hr hB hW hl1 hl2 hR0 hR0l
 go_enter Tryz.func53,Tryz.ntmps53
 go_wp2_with fail
 refine HNO.out.mono ?_
 rintro e w1 ⟨a2,n2,c2,rfl,h2,bw⟩
 have hn2:n2≤n:=by rw[←h2.len];exact HR0L.out
 replace HB:=bt_ HB bw
 have RR2:=hd_ h2
 clear bw h2 HNO
 go_wp2
 go_loopw [6,7] (fun qv rv wr=>∃(a1:OA_) (n1 c1:Nat) (Q:LR_) (a2:OA_) (n2 c2:Nat) (R:LR_),qv=.slice a1 n1 c1∧rv=.slice a2 n2 c2∧n1≤n∧n2≤n∧Hid (Rw wr a1 n1 c1 Q)∧Hid (Rw wr a2 n2 c2 R)∧Hid (peq ps (padd (pmul Q rs) R)∧ah_ R=R∧I Q R)∧Hid (Below w.heap.size w wr)) (fun _ rv _=>ku_ rv)
 case atStart=>exact⟨none,0,0,[],a2,n2,c2,R0,rfl,rfl,by omega,hn2,hd_ (Rw.nil _),RR2,HD0,HB⟩
 case round=>
  clear RR2 HD0 HB hn2
  obtain⟨a1,n1,c1,Q,a2,n2,c2,R,rfl,rfl,hn1,hn2,HQ,HR,HD,HB⟩:=hrel
  have hbd1:=HR.out.bound
  have hbd3:=HQ.out.bound
  have HRl:=hd_ HR.out.len
  have HQl:=hd_ HQ.out.len
  by_cases hge:m≤n2
  ·have hgi:(m:Int)≤(n2:Int):=by omega
   obtain⟨e2,he2⟩:∃e2,n2 - 1=e2:=⟨_,rfl⟩
   obtain⟨e3,he3⟩:∃e3,m - 1=e3:=⟨_,rfl⟩
   obtain⟨D,hD⟩:∃D,n2 - m=D:=⟨_,rfl⟩
   have hi2:(n2:Int) - 1=(e2:Int):=by omega
   have hi3:(m:Int) - 1=(e3:Int):=by omega
   have hiD:(n2:Int) - (m:Int)=(D:Int):=by omega
   have hw2:IntKind.i64.wrap (e2:Int)=(e2:Int):=by rw[IntKind.wrap_i64];omega
   have hw3:IntKind.i64.wrap (e3:Int)=(e3:Int):=by rw[IntKind.wrap_i64];omega
   have hwD:IntKind.i64.wrap (D:Int)=(D:Int):=by rw[IntKind.wrap_i64];omega
   have hl2:(e2:Int) < (n2:Int):=by omega
   have hl3:(e3:Int) < (m:Int):=by omega
   have hK1:1≤K:=Nat.le_trans (i8_ (rs.getD 0 0)) (HRR.out _ (f4_ (k:=0) (by rw[HRL.out];exact h0)))
   have hcl:=HW.out.top HD.out.2.2 HD.out.2.1 (by rw[HRL.out,HRl.out];exact hge)
   obtain⟨hRq,hQq⟩:=HW.out.room HD.out.2.2
   obtain⟨rt,hrt⟩:∃x,R.getD e2 0=x:=⟨_,rfl⟩
   obtain⟨bt,hbt⟩:∃x,rs.getD e3 0=x:=⟨_,rfl⟩
   obtain⟨cq,hcq⟩:∃x,rt / bt=x:=⟨_,rfl⟩
   have hcq2:cq=R.getD (R.length - 1) 0 / rs.getD (rs.length - 1) 0:=by rw[HRl.out,HRL.out,he2,he3,hrt,hbt,hcq]
   rw[←hcq2] at hcl
   have HSTEP:Hid (∀Q' X R',peq Q' (padd Q (shot D cq))→peq X (pmul (shot D cq) rs)→peq R' (psub R X)→ah_ R'=R'→(peq ps (padd (pmul Q' rs) R')∧ah_ R'=R'∧I Q' R')∧R'.length < n2):=hd_ (fun Q' X R' g1 g2 g3 g4=>by
    have hDl:D=R.length - rs.length:=by rw[HRl.out,HRL.out,hD]
    have i1:=k2_ (Q':=Q') (X:=X) (R':=R') HBN.out (by rw[HRL.out];exact h0) (by rw[HRL.out,HRl.out];exact hge) HD.out.1 hcq2 (hDl▸g1) (hDl▸g2) g3 g4
    have i2:=HW.out.step (Q':=Q') (X:=X) (R':=R') HD.out.2.2 HD.out.2.1 (by rw[HRL.out,HRl.out];exact hge) hcq2 (hDl▸g1) (hDl▸g2) g3 g4
    rw[HRl.out] at i1
    exact⟨⟨i1.1,g4,i2⟩,i1.2⟩)
   obtain⟨bb,off,rfl,a3,n3,c3,b3,m3,d3,hea,hA,hDn⟩:=HR.out.at (j:=e2) (by omega)
   obtain⟨bc,off2,hbe,a4,n4,c4,b4,m4,d4,heb,hA2,hD2⟩:=(HM.out.later HB.out).at (j:=e3) (by omega)
   have hlr:=hRq _ (f4_ (L:=R) (k:=e2) (by rw[HRl.out];omega))
   have hlb:=HRR.out _ (f4_ (L:=rs) (k:=e3) (by rw[HRL.out];omega))
   rw[hrt] at hea hA hDn hlr
   rw[hbt] at heb hA2 hD2 hlb
   have hF1:=Rt.of hA hDn (N:=15728640000) (by rw[←hA.len];exact Nat.le_trans (a8_ _) (by omega)) (by rw[←hDn.len];exact Nat.le_trans (a7_ _) (by omega))
   have hF2:=Rt.of hA2 hD2 (N:=15728640000) (by rw[←hA2.len];exact Nat.le_trans (a8_ _) (by omega)) (by rw[←hD2.len];exact Nat.le_trans (a7_ _) (by omega))
   have HEA:=hd_ hea
   have HEB:=hd_ heb
   subst hbe
   have HQU:∀w':World,Below wr.heap.size wr w'→Calls Tryz.prog 54 #[.agg #[.bool (zneg rt.num),.slice a3 n3 c3,.slice b3 m3 d3],.agg #[.bool (zneg bt.num),.slice a4 n4 c4,.slice b4 m4 d4]] w' (LstQ cq w'):=fun w' h9=>hcq▸in_ _ _ rt bt w' (by obtain⟨x1,x2,x3,x4,x5,x6,y0,y1,y2,y3⟩:=hF1;exact⟨x1,x2,x3,x4,x5,x6,y0,y1.later h9,y2.later h9,y3⟩) (by obtain⟨x1,x2,x3,x4,x5,x6,y0,y1,y2,y3⟩:=hF2;exact⟨x1,x2,x3,x4,x5,x6,y0,y1.later h9,y2.later h9,y3⟩)
   have HCL:=hd_ hcl
   have HQq:=hd_ hQq
   have HRq:=hd_ hRq
   have HDe:=hd_ hD
   clear hA hDn hA2 hD2 hF1 hF2 hea heb hlr hlb hrt hbt hcq hcq2 hcl hRq hQq he2 he3 hD HD
   go_upto_region 4 with fail
   go_cut [8] from 17 to 29 (fun cv wx=>∃(g:Nat) (a5:OA_) (n5 c5:Nat) (b5:OA_) (m5 d5:Nat),cv=.pointer (some ⟨g,0,none⟩)∧Hid (wx.heap[g]? = some (.cells #[.bool (zneg cq.num),.slice a5 n5 c5,.slice b5 m5 d5] 27 (0,0)))∧Hid (Wd wx a5 n5 c5 (dg cq.num.natAbs))∧Hid (Wd wx b5 m5 d5 (dg cq.den))∧Hid (Below wr.heap.size wr wx))
   case first=>
    go_wp2
    have qS:=lt_ HEA.out HEB.out (dw_ wr)
    have qA:=fun o=>lt_ HEA.out HEB.out ((aa_ wr o).drew:Below wr.heap.size wr (wr.alloc o).drew)
    have G1:Below wr.heap.size wr wr.drew:=(Below.refl _ _).drew
    have G2:∀o,Below wr.heap.size wr (wr.alloc o).drew:=fun o=>(aa_ wr o).drew
    go_region_held3 (fun w'=>w'.cell? ⟨bb,off+e2 * 3,none⟩=some (.bool (zneg rt.num))∧w'.cell? ⟨bb,off+e2 * 3+1,none⟩=some (.slice a3 n3 c3)∧w'.cell? ⟨bb,off+e2 * 3+2,none⟩=some (.slice b3 m3 d3)∧w'.cell? ⟨bc,off2+e3 * 3,none⟩=some (.bool (zneg bt.num))∧w'.cell? ⟨bc,off2+e3 * 3+1,none⟩=some (.slice a4 n4 c4)∧w'.cell? ⟨bc,off2+e3 * 3+2,none⟩=some (.slice b4 m4 d4)) (first | with_reducible exact qS | with_reducible exact qA _ | with_reducible exact qC)
     (first
     | (go_at_call 54;(first
       | (refine (HQU _ G1).mono ?_;rintro e w4 ⟨a5,n5,c5,b5,m5,d5,rfl,h5,g5,bw⟩;have BB:=hd_ (ab_ G1 bw);have A5:=hd_ h5;have D5:=hd_ g5;clear h5 g5 bw;unfold frV;clear qS qA;have qS:=lt_ HEA.out HEB.out BB.out;have qA:=fun o=>lt_ HEA.out HEB.out (ab_ BB.out (aa_ w4 o)))
       | (refine (HQU _ (G2 _)).mono ?_;rintro e w4 ⟨a5,n5,c5,b5,m5,d5,rfl,h5,g5,bw⟩;have BB:=hd_ (ab_ (G2 _) bw);have Z4:=hd_ (ac_ (w:=(wr.alloc (.cells #[.bool false,.slice none 0 0,.slice none 0 0] 27)).drew) (ai_ wr #[.bool false,.slice none 0 0,.slice none 0 0] 27) bw);have A5:=hd_ h5;have D5:=hd_ g5;clear h5 g5 bw;unfold frV;obtain⟨z0,z1,z2⟩:=as_ Z4.out;have f0:=ad_ Z4.out 0;have f1:=ad_ Z4.out 1;have f2:=ad_ Z4.out 2;have qC:=lt_ HEA.out HEB.out (az_ BB.out (Nat.le_refl _) (.bool (zneg cq.num)) (.slice a5 n5 c5) (.slice b5 m5 d5));clear qS qA;have qS:=lt_ HEA.out HEB.out BB.out;have qA:=fun o=>lt_ HEA.out HEB.out (ab_ BB.out (aa_ w4 o))))))
    all_goals (
     go_wp2
     go_meet
     (first
       | exact⟨wr.heap.size,a5,n5,c5,b5,m5,d5,rfl,hd_ (bm_ Z4.out (.bool (zneg cq.num)) (.slice a5 n5 c5) (.slice b5 m5 d5)),hd_ (A5.out.stored3 Z4.out (zneg cq.num) a5 n5 c5 (.slice b5 m5 d5)),hd_ (D5.out.stored3 Z4.out (zneg cq.num) a5 n5 c5 (.slice b5 m5 d5)),hd_ (az_ BB.out (Nat.le_refl _) (.bool (zneg cq.num)) (.slice a5 n5 c5) (.slice b5 m5 d5))⟩
       | exact⟨w4.heap.size,a5,n5,c5,b5,m5,d5,rfl,hd_ (ai_ w4 _ 27),hd_ (A5.out.later (aa_ w4 _)),hd_ (D5.out.later (aa_ w4 _)),hd_ (ab_ BB.out (aa_ w4 _))⟩))
   case rest=>
    obtain⟨g,a5,n5,c5,b5,m5,d5,rfl,CB,A5,D5,HBc⟩:=hcut
    replace HB:=hd_ (ab_ HB.out HBc.out)
    replace HQ:=hd_ (HQ.out.later HBc.out)
    replace HR:=hd_ (HR.out.later HBc.out)
    clear HBc HQU HEA HEB hi2 hi3 hw2 hw3 hl2 hl3
    have hDn:D+1≤n:=by have:=HDe.out;omega
    go_upto_region 5 with fail
    go_cut [9] from 30 to 38 (fun tv wx=>∃(a7:OA_) (c7:Nat),tv=.slice a7 (D+1) c7∧Hid (Rw wx a7 (D+1) c7 (shot D cq))∧Hid (Below wc.heap.size wc wx))
    case first=>
     have HZR:∀w':World,Calls Tryz.prog 98 #[.int .i64 (D:Int)] w' (LstRow 27 (List.replicate D 0) w'):=fun w'=>by
      have h9:=m4_ (D:Int) w'
      rwa [show rcut (D:Int)=D by unfold rcut;omega] at h9
     have HLZ:(List.replicate D (0:Rat)).length≤1000000:=by rw[List.length_replicate];omega
     have HSHL:Hid ((shot D cq).length=D+1):=hd_ (im_ D cq)
     have HSH:Hid (List.replicate D (0:Rat) ++ [cq]=shot D cq):=hd_ rfl
     obtain⟨i0,hi,hz0,hz1,hz2⟩:=info_parts eb_
     obtain⟨x0,x1,x2⟩:=as_ CB.out
     go_wp2
     have b0:Below wc.heap.size wc wc.drew:=(Below.refl _ _).drew
     have BC:=hd_ b0
     have AW:=hd_ A5.out
     have DW:=hd_ D5.out
     replace CB:=bl_ CB b0
     replace A5:=A5.l_ b0
     replace D5:=D5.l_ b0
     clear x0 x1 x2 b0
     obtain⟨x0,x1,x2⟩:=as_ CB.out
     go_region_law (first
      | (refine fw_ rfl _ _ 22 rfl wc.heap.size 27 i0 Tryz.underlying22 hi hz0 hz1 hz2 _ _ rfl HOa.out _ cq a5 n5 c5 b5 m5 d5 rfl (gy_ _ _ _ _ _ _ _ _ _) AA.out DA.out HLZ (by rw[al_];omega) ?_;intro mv6 w6 hrow hgrow hbase hcl;have BX:=hd_ (HBa.out.grown hgrow (by rw[al_];omega) hbase))
      | (refine fw_ rfl _ _ 22 rfl wc.heap.size 27 i0 Tryz.underlying22 hi hz0 hz1 hz2 _ _ rfl HOb.out _ cq a5 n5 c5 b5 m5 d5 rfl HNW.out AB.out DB.out HLZ hsz4 ?_;intro mv6 w6 hrow hgrow hbase hcl;have BX:=hd_ (HBB.out.grown hgrow hsz4 hbase))
      | (go_simp;go_at_call 98;refine (HZR _).mono ?_;rintro e w4 ⟨v4,rfl,hO,bw⟩;(first
        | (have bw1:Below wc.drew.heap.size wc.drew w4:=(by with_reducible exact bw);have HBB:=hd_ (ab_ BC.out bw1);have hsz4:wc.heap.size≤w4.heap.size:=HBB.out.size;have ba:=aa_ w4 (.cells #[.bool (zneg cq.num),.slice a5 n5 c5,.slice b5 m5 d5] 27);have HOa:=hd_ ((h0_ hO (b':=wc.heap.size) BC.out.size).later ba);have AA:=hd_ ((AW.out.later HBB.out).later ba);have DA:=hd_ ((DW.out.later HBB.out).later ba);have HBa:=hd_ (ab_ HBB.out ba);replace CB:=bl_ CB bw1;clear x0 x1 x2 hO bw bw1 ba;obtain⟨x0,x1,x2⟩:=as_ CB.out)
        | (have bq:Below wc.heap.size wc (wc.alloc (.cells #[.bool (zneg cq.num),.slice a5 n5 c5,.slice b5 m5 d5] 27)).drew:=(aa_ wc (.cells #[.bool (zneg cq.num),.slice a5 n5 c5,.slice b5 m5 d5] 27)).drew;have bw1:Below (wc.alloc (.cells #[.bool (zneg cq.num),.slice a5 n5 c5,.slice b5 m5 d5] 27)).drew.heap.size (wc.alloc (.cells #[.bool (zneg cq.num),.slice a5 n5 c5,.slice b5 m5 d5] 27)).drew w4:=(by with_reducible exact bw);have HBB:=hd_ (ab_ bq bw1);have hsz4:wc.heap.size≤w4.heap.size:=HBB.out.size;have HOb:=hd_ (h0_ hO (b':=wc.heap.size) bq.size);have AB:=hd_ (AW.out.later HBB.out);have DB:=hd_ (DW.out.later HBB.out);have HNW:=hd_ (fun j u hu=>cell_later (w:=(wc.alloc (.cells #[.bool (zneg cq.num),.slice a5 n5 c5,.slice b5 m5 d5] 27)).drew) bw1 (gy_ wc cq a5 n5 c5 b5 m5 d5 27 j u hu));clear x0 x1 x2 hO bw bw1 bq))))
     all_goals (
      have hrow2:Row w6 wc.heap.size 27 mv6 (shot D cq):=hrow
      obtain⟨a7,c7,rfl,h7⟩:=hrow2.out
      have HF:=hd_ h7
      clear hrow hgrow hbase hcl hrow2 h7
      rw[HSHL.out] at HF ⊢
      go_wp2
      go_meet
      exact⟨a7,c7,rfl,HF,BX⟩)
    case rest=>
     obtain⟨a7,c7,rfl,HT,HBc⟩:=hcut
     replace HB:=hd_ (ab_ HB.out HBc.out)
     replace HQ:=hd_ (HQ.out.later HBc.out)
     replace HR:=hd_ (HR.out.later HBc.out)
     clear HBc CB A5 D5 hiD hwD
     have hKp:1≤K:=hK1
     have HSQ:Hid (∀q∈shot D cq,qlen q≤2000000000):=hd_ (fun q hq=>by
      have h9:=HCL.out
      rcases List.mem_append.1 hq with h8 | h8
      ·rw[(List.mem_replicate.1 h8).2,cy_];omega
      ·rw[List.mem_singleton.1 h8];omega)
     obtain⟨Q2,hQ2⟩:∃x,ah_ (padd Q (shot D cq))=x:=⟨_,rfl⟩
     obtain⟨X2,hX2⟩:∃x,ah_ (pmul (shot D cq) rs)=x:=⟨_,rfl⟩
     obtain⟨R2,hR2⟩:∃x,ah_ (psub R X2)=x:=⟨_,rfl⟩
     have HXQ:Hid (∀q∈X2,qlen q≤2000000000):=hd_ (by
      rw[←hX2]
      refine cg_ fun i=>?_
      rw[e5_]
      exact Nat.le_trans (i5_ (Nat.le_refl (qlen cq)) HRR.out hKp i) (by have:=HCL.out;omega))
     have HX2:Hid (X2.length≤500):=hd_ (by
      rw[←hX2]
      refine Nat.le_trans (ax_ _) (Nat.le_trans (b1_ _ _) ?_)
      rw[im_,HRL.out];omega)
     have HQ2:Hid (Q2.length≤n):=hd_ (by
      rw[←hQ2]
      refine Nat.le_trans (ax_ _) (Nat.le_trans (gw_ _ _) ?_)
      rw[im_,HQl.out];omega)
     obtain⟨hst1,hst2⟩:=HSTEP.out Q2 X2 R2 (by rw[←hQ2];exact ar_ _) (by rw[←hX2];exact ar_ _) (by rw[←hR2];exact ar_ _) (by rw[←hR2];exact a9_ _)
     have HD2:=hd_ hst1
     have HRL2:=hd_ hst2
     have HADD:=fun (w':World) (h8:Rw w' a1 n1 c1 Q) (h9:Rw w' a7 (D+1) c7 (shot D cq))=>(hQ2▸l7_ a1 n1 c1 Q a7 (D+1) c7 (shot D cq) w' h8 h9 (by omega) (by omega) (fun q hq=>Nat.le_trans (HQq.out q hq) (by omega)) (fun q hq=>Nat.le_trans (HSQ.out q hq) (by decide)):Calls Tryz.prog 84 #[.slice a1 n1 c1,.slice a7 (D+1) c7] w' (b8_ Q2 w'))
     have HMUL:=fun (w':World) (h8:Rw w' a7 (D+1) c7 (shot D cq)) (h9:Rw w' (some ⟨bc,off2,none⟩) m d rs)=>(hX2▸ir_ a7 (D+1) c7 (shot D cq) _ m d rs w' h8 h9 (by omega) (by omega) (fun q hq=>Nat.le_trans (HSQ.out q hq) (by decide)) (fun q hq=>Nat.le_trans (HRR.out q hq) (by have:=HCL.out;omega)) (fun k i=>by
      unfold ez_
      rw[ey_]
      by_cases hi:i=D
      ·rw[if_pos hi]
       have h7:=cr_ hKp HRR.out (k - i)
       have h6:=cu_ cq (co rs (k - i))
       have:=HCL.out;omega
      ·rw[if_neg hi,Rat.zero_mul,cy_];omega) (fun k i=>Nat.le_trans (rk_ (Nat.le_refl (qlen cq)) HRR.out hKp k i) (by have:=HCL.out;omega)):Calls Tryz.prog 80 #[.slice a7 (D+1) c7,.slice (some ⟨bc,off2,none⟩) m d] w' (b8_ X2 w'))
     have HSUB:=fun (w':World) (a9:OA_) (n9 c9:Nat) (h7:n9≤500) (h8:Rw w' (some ⟨bb,off,none⟩) n2 c2 R) (h9:Rw w' a9 n9 c9 X2)=>(hR2▸ref14_sub _ n2 c2 R a9 n9 c9 X2 w' h8 h9 (by omega) h7 (fun q hq=>Nat.le_trans (HRq.out q hq) (by omega)) HXQ.out:Calls Tryz.prog 79 #[.slice (some ⟨bb,off,none⟩) n2 c2,.slice a9 n9 c9] w' (b8_ R2 w'))
     clear hQ2 hX2 hR2 hst1 hst2 HSTEP HSQ HXQ HQq HRq HQl HCL HDe hKp hK1
     go_wp2_with fail
     refine (HADD _ HQ.out HT.out).mono ?_
     rintro e w5 ⟨a8,n8,c8,rfl,h8,bw⟩
     have hn8:n8≤n:=by rw[←h8.len];exact HQ2.out
     replace HB:=bt_ HB bw
     replace HR:=HR.l_ bw
     replace HT:=HT.l_ bw
     have Q8:=hd_ h8
     clear h8 bw HQ HADD
     go_wp2_with fail
     refine (HMUL _ HT.out (HM.out.later HB.out)).mono ?_
     rintro e w6 ⟨a9,n9,c9,rfl,h9,bw⟩
     have hn9:n9≤500:=by rw[←h9.len];exact HX2.out
     replace HB:=bt_ HB bw
     replace HR:=HR.l_ bw
     replace Q8:=Q8.l_ bw
     have X9:=hd_ h9
     clear h9 bw HT HMUL
     go_wp2_with fail
     refine (HSUB _ a9 n9 c9 hn9 HR.out X9.out).mono ?_
     rintro e w7 ⟨a10,n10,c10,rfl,h10,bw⟩
     have hn10:n10 < n2:=by rw[←h10.len];exact HRL2.out
     replace HB:=bt_ HB bw
     replace Q8:=Q8.l_ bw
     have R10:=hd_ h10
     clear h10 bw HR X9 HSUB
     go_wp2
     go_roundw
     case rel=>exact⟨a8,n8,c8,Q2,a10,n10,c10,R2,rfl,rfl,hn8,by omega,Q8,R10,HD2,HB⟩
     case measure=>simp[ku_];omega
  ·have hgi:¬(m:Int)≤(n2:Int):=by omega
   have hRl:=HRl.out
   have hRL:=HRL.out
   have g1:isDiv ps rs (ah_ Q) R:=⟨fun i=>by rw[HD.out.1 i,bf_,bf_,(a6_ (ar_ Q) (peq.refl rs)) i],by rw[ay_ HD.out.2.1,ay_ HBN.out];omega⟩
   have hQq:=(HW.out.room HD.out.2.2).2
   have HNO:=fun (w':World) (h8:Rw w' a1 n1 c1 Q)=>ea_ a1 n1 c1 Q w' h8 (by omega) (fun q hq=>Nat.le_trans (hQq q hq) (by omega))
   have G0:=hd_ HD.out.2.1
   have G1:=hd_ g1
   have G2:Hid (R.length≤n):=hd_ (by omega)
   have G3:=hd_ HD.out.2.2
   clear g1 hQq hRl hRL HD
   go_wp2_with fail
   refine (HNO _ HQ.out).mono ?_
   rintro e w4 ⟨a8,n8,c8,rfl,h8,bw⟩
   have hl8:(ah_ Q).length≤n:=Nat.le_trans (ax_ _) (by rw[HQl.out];exact hn1)
   have HL8:=hd_ hl8
   replace HB:=bt_ HB bw
   replace HR:=HR.l_ bw
   have Q8:=hd_ h8
   clear h8 bw HQ HNO hl8
   go_wp2
   go_ret2
   exact⟨a8,n8,c8,ah_ Q,a2,n2,c2,R,rfl,Q8.out,HR.out,G1.out,a9_ _,G0.out,G2.out,⟨Q,rfl,G3.out⟩,HL8.out,HB.out⟩
theorem gcd_done{A B x:List Rat}{c:Rat}(h:∀g,common x [] g→common A B g)(hx:ah_ x=x)(h0:0 < x.length)(hc:c=1 / x.getD (x.length - 1) 0):isGcd A B (ah_ (ag_ c x)):=by
 have ht:=f8_ hx h0
 have hcx:c * x.getD (x.length - 1) 0=1:=by rw[hc];exact Rat.div_mul_cancel ht
 have hc0:c≠0:=fun e=>by rw[e,Rat.zero_mul] at hcx;exact absurd hcx (by decide)
 refine ⟨((h _ (common.none x)).scale hc0).of (peq.refl _) (peq.refl _) (ar_ _).symm,fun n hn=>?_⟩
 have h1:plen (ah_ (ag_ c x))=x.length:=by rw[ao_ (ar_ _),bj_ hc0,ay_ hx]
 have h2:n=x.length - 1:=by omega
 rw[e5_,aj_,h2]
 exact hcx
theorem pu_(a:OA_)(n c:Nat)(ps:LR_)(b:OA_)(m d:Nat)(rs:LR_)(T E:Nat)(J:List Rat→List Rat→Prop)(w:World)(h:Rw w a n c ps)(k:Rw w b m d rs)(hn:n≤100)(hm:m≤100)(hp:∀q∈ps,qlen q≤15728640000)(hr:∀q∈rs,qlen q≤15728640000)
 (hW:GcdWay ps rs T E J) (hT:T≤2000000000):Calls Tryz.prog 52 #[.slice a n c,.slice b m d] w (o5_ ps rs E w):=by
 obtain⟨x0,hx0⟩:∃x,ah_ ps=x:=⟨_,rfl⟩
 obtain⟨y0,hy0⟩:∃x,ah_ rs=x:=⟨_,rfl⟩
 have hxl:x0.length≤n:=by rw[←hx0,←h.len];exact ax_ _
 have hyl:y0.length≤m:=by rw[←hy0,←k.len];exact ax_ _
 have HXL:=hd_ hxl
 have HYL:=hd_ hyl
 have HG0:Hid ((∀g,common x0 y0 g→common ps rs g)∧ah_ x0=x0∧ah_ y0=y0∧J x0 y0):=hd_ ⟨fun g hg=>hg.of (hx0▸ar_ ps) (hy0▸ar_ rs) (peq.refl g),by rw[←hx0];exact a9_ _,by rw[←hy0];exact a9_ _,by rw[←hx0,←hy0];exact hW.start⟩
 have HNX:Hid (Calls Tryz.prog 49 #[.slice a n c] w (b8_ x0 w)):=hd_ (hx0▸ea_ a n c ps w h (by omega) hp)
 have HNY:=fun (w':World) (h9:Rw w' b m d rs)=>(hy0▸ea_ b m d rs w' h9 (by omega) hr:Calls Tryz.prog 49 #[.slice b m d] w' (b8_ y0 w'))
 have HB:=hd_ (Below.refl w.heap.size w)
 have HM:=hd_ k
 have HW:=hd_ hW
 clear h k hp hr hW hx0 hy0 hxl hyl
 go_enter Tryz.func52,Tryz.ntmps52
 go_wp2_with fail
 refine HNX.out.mono ?_
 rintro e w1 ⟨a1,n1,c1,rfl,h1,bw⟩
 have hn1:n1≤100:=by rw[←h1.len];exact Nat.le_trans HXL.out hn
 replace HB:=bt_ HB bw
 have RX:=hd_ h1
 clear bw h1 HNX
 go_wp2_with fail
 refine (HNY _ (HM.out.later HB.out)).mono ?_
 rintro e w2 ⟨a2,n2,c2,rfl,h2,bw⟩
 have hn2:n2≤100:=by rw[←h2.len];exact Nat.le_trans HYL.out hm
 replace HB:=bt_ HB bw
 replace RX:=RX.l_ bw
 have RY:=hd_ h2
 clear bw h2 HNY HXL HYL
 go_wp2
 go_loopw [5,6] (fun xv yv wr=>∃(a1:OA_) (n1 c1:Nat) (x:LR_) (a2:OA_) (n2 c2:Nat) (y:LR_),xv=.slice a1 n1 c1∧yv=.slice a2 n2 c2∧n1≤100∧n2≤100∧Hid (Rw wr a1 n1 c1 x)∧Hid (Rw wr a2 n2 c2 y)∧Hid ((∀g,common x y g→common ps rs g)∧ah_ x=x∧ah_ y=y∧J x y)∧Hid (Below w.heap.size w wr)) (fun _ yv _=>ku_ yv)
 case atStart=>exact⟨a1,n1,c1,x0,a2,n2,c2,y0,rfl,rfl,hn1,hn2,RX,RY,HG0,HB⟩
 case round=>
  clear RX RY HG0 HB hn1 hn2
  obtain⟨a1,n1,c1,x,a2,n2,c2,y,rfl,rfl,hn1,hn2,RX,RY,HG,HB⟩:=hrel
  have hbx:=RX.out.bound
  have hby:=RY.out.bound
  have hxl:=RX.out.len
  have hyl:=RY.out.len
  have HXl:=hd_ hxl
  have HYl:=hd_ hyl
  by_cases hy0:0 < n2
  ·have hyi:(0:Int) < (n2:Int):=by omega
   obtain⟨K,I,g1,g2,g3⟩:=HW.out.div HG.out.2.2.2 HG.out.2.1 HG.out.2.2.1 (by rw[hyl];exact hy0)
   have HDV:=fun (w':World) (h8:Rw w' a1 n1 c1 x) (h9:Rw w' a2 n2 c2 y)=>ho_ a1 n1 c1 x a2 n2 c2 y K T I w' h8 h9 (by omega) (by omega) (fun q hq=>Nat.le_trans (g2 q hq) (by omega)) g1 HG.out.2.2.1 hy0 g3 hT
   clear g1 g2 g3 hxl hyl
   go_wp2_with fail
   refine (HDV _ RX.out RY.out).mono ?_
   rintro e w4 ⟨a3,n3,c3,q,a4,n4,c4,r,rfl,h3,h4,d1,d2,d3,d4,d5,d6,bw⟩
   have hn4:n4 < n2:=by
    have:=d1.2
    rw[ay_ d3,ay_ HG.out.2.2.1] at this
    rw[←h4.len,←HYl.out];exact this
   replace HB:=bt_ HB bw
   replace RY:=RY.l_ bw
   have R4:=hd_ h4
   have HG4:Hid ((∀g,common y r g→common ps rs g)∧ah_ y=y∧ah_ r=r∧J y r):=hd_ ⟨fun g hg=>HG.out.1 g (common.step d1.1 hg),HG.out.2.2.1,d3,HW.out.step HG.out.2.2.2 HG.out.2.1 HG.out.2.2.1 (by rw[HYl.out];exact hy0) d1 d3⟩
   clear bw h3 h4 d1 d2 d3 d4 d5 d6 RX HDV HG HXl HYl
   go_wp2
   go_roundw
   case rel=>exact⟨a2,n2,c2,y,a4,n4,c4,r,rfl,rfl,hn2,by omega,RY,R4,HG4,HB⟩
   case measure=>simp[ku_];omega
  ·have hyi:¬(0:Int) < (n2:Int):=by omega
   have hy1:y=[]:=List.eq_nil_of_length_eq_zero (by rw[hyl];omega)
   subst hy1
   by_cases hx0:n1=0
   ·have hx1:x=[]:=List.eq_nil_of_length_eq_zero (by rw[hxl];exact hx0)
    subst hx1
    have hxe:((n1:Int) == 0)=true:=by simp[hx0]
    have G0:Hid (isGcd ps rs []):=hd_ ⟨HG.out.1 _ (common.none _),fun n hn=>by rw[h4_] at hn;omega⟩
    have HF:=hd_ RX.out
    clear hxl hyl HXl HYl HG RX RY hx0
    go_wp2
    go_ret
    exact⟨a1,n1,c1,[],rfl,HF.out,G0.out,rfl,fun q hq=>by simp at hq,⟨1,by decide,fh_ E,fun i=>⟨0,rfl,Nat.zero_le _⟩⟩,HB.out⟩
   ·have hxe:((n1:Int) == 0)=false:=by simp[hx0]
    obtain⟨e2,he2⟩:∃e2,n1 - 1=e2:=⟨_,rfl⟩
    have hi2:(n1:Int) - 1=(e2:Int):=by omega
    have hw2:IntKind.i64.wrap (e2:Int)=(e2:Int):=by rw[IntKind.wrap_i64];omega
    have hl2:(e2:Int) < (n1:Int):=by omega
    obtain⟨rt,hrt⟩:∃z,x.getD e2 0=z:=⟨_,rfl⟩
    obtain⟨z1,hz1⟩:∃z:Rat,((1:Int):Rat)=z:=⟨_,rfl⟩
    have hz11:z1=1:=by rw[←hz1];rfl
    obtain⟨cq,hcq⟩:∃z,z1 / rt=z:=⟨_,rfl⟩
    have hcq2:cq=1 / x.getD (x.length - 1) 0:=by rw[hxl,he2,hrt,←hz11,hcq]
    obtain⟨g1,g2,o3,o4⟩:=HW.out.over HG.out.2.2.2 HG.out.2.1 (by rw[hxl];omega)
    rw[←hcq2] at g1 o3 o4
    have o1:=gcd_done HG.out.1 HG.out.2.1 (by rw[hxl];omega) hcq2
    have HI1:∀w':World,Calls Tryz.prog 15 #[.int .i64 1] w' (LstQ z1 w'):=fun w'=>hz1▸cz_ 1 w' lk_
    have hlz:qlen z1≤2:=hz1▸br_ (by decide)
    have HSC:=fun (w':World) (v':Value) (h8:Rt w' v' cq 2000000000) (h9:Rw w' a1 n1 c1 x)=>g4_ v' cq a1 n1 c1 x w' h8 h9 (by omega) (fun q hq=>Nat.le_trans (g2 q hq) hT)
    obtain⟨bb,off,rfl,a3,n3,c3,b3,m3,d3,hea,hA,hDn⟩:=RX.out.at (j:=e2) (by omega)
    have hlr:=g2 _ (f4_ (L:=x) (k:=e2) (by rw[hxl];omega))
    rw[hrt] at hea hA hDn hlr
    have hn3:n3≤15728640000:=by rw[←hA.len];exact Nat.le_trans (a8_ _) (by omega)
    have hm3:m3≤15728640000:=by rw[←hDn.len];exact Nat.le_trans (a7_ _) (by omega)
    have hlc:qlen cq≤2000000000:=by omega
    have ECQ:=hd_ hcq
    have HLC:=hd_ hlc
    have HLZ:=hd_ hlz
    have QA:=hd_ hA
    have QD:=hd_ hDn
    have HEA:=hd_ hea
    have O1:=hd_ o1
    have O3:=hd_ o3
    have O4:=hd_ o4
    have BR:=hd_ (Below.refl wr.heap.size wr)
    clear hxl hyl HXl HYl HG RY hx0 he2 g1 g2 hrt hz1 hz11 hcq hcq2 o1 o3 o4 hlz hA hDn hea hlr hlc
    obtain⟨e00,e10,e20⟩:=HEA.out
    go_wp2
    have b0:Below wr.heap.size wr wr.drew:=(Below.refl _ _).drew
    replace BR:=bt_ BR b0
    clear e00 e10 e20 b0
    obtain⟨e00,e10,e20⟩:=aq_ HEA.out BR.out
    go_region_law (first
     | (go_simp;go_at_call 15;refine (HI1 _).mono ?_;rintro e w4 ⟨a4,n4,c4,b4,m4,d4,rfl,h4,g4,bw⟩;clear e00 e10 e20;replace BR:=bt_ BR bw;have hn4:n4≤2:=Nat.le_trans (Nat.le_of_eq h4.len.symm) (Nat.le_trans (a8_ _) HLZ.out);have hm4:m4≤2:=Nat.le_trans (Nat.le_of_eq g4.len.symm) (Nat.le_trans (a7_ _) HLZ.out);have A4:=hd_ h4;have D4:=hd_ g4;clear bw h4 g4;unfold frV;obtain⟨e00,e10,e20⟩:=aq_ HEA.out BR.out)
     | (go_simp;go_at_call 54;refine (in_ _ _ z1 rt _ (Rt.of A4.out D4.out (by omega) (by omega)) (Rt.of (QA.out.later BR.out) (QD.out.later BR.out) hn3 hm3)).mono ?_;rintro e w5 ⟨a5,n5,c5,b5,m5,d5,rfl,h5,g5,bw⟩;rw[ECQ.out] at h5 g5 ⊢;clear e00 e10 e20;replace BR:=bt_ BR bw;have hn5:n5≤2000000000:=Nat.le_trans (Nat.le_of_eq h5.len.symm) (Nat.le_trans (a8_ _) HLC.out);have hm5:m5≤2000000000:=Nat.le_trans (Nat.le_of_eq g5.len.symm) (Nat.le_trans (a7_ _) HLC.out);have A5:=hd_ h5;have D5:=hd_ g5;clear bw h5 g5 A4 D4)
     | (go_simp;go_at_call 55;refine (HSC _ _ (Rt.of A5.out D5.out hn5 hm5) (RX.out.later BR.out)).mono ?_;rintro e w6 ⟨a6,n6,c6,rfl,h6,bw⟩;replace BR:=bt_ BR bw;have R6:=hd_ h6;clear bw h6 A5 D5))
    all_goals (
     go_wp2
     go_ret
     exact⟨a6,n6,c6,_,rfl,R6.out,O1.out,a9_ _,O3.out,O4.out,ab_ HB.out BR.out⟩)

end Go.Proofs.YtocebjbjnfammaaGreat
