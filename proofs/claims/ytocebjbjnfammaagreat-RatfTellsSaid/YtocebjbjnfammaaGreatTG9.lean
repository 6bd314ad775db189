import Derived.Test.YtocebjbjnfammaaGreatTG7
import Derived.Test.YtocebjbjnfammaaGreatTG6
import Derived.Test.YtocebjbjnfammaaGreatTG8
import Derived.Deep.RegionHeld3
import Derived.Deep.RegionWith
import Derived.Deep.CutRange
import Derived.Test.YtocebjbjnfammaaGreatTG2
import Derived.Test.YtocebjbjnfammaaGreatTG3
import Derived.Test.YtocebjbjnfammaaGreatTG1
set_option maxRecDepth 4096
set_option maxHeartbeats 16000000
namespace Go.Proofs.YtocebjbjnfammaaGreat
open Go.RowKit
theorem i3_{c:Rat}{l:List Rat}{k:Nat}(h:k < l.length):(ag_ c l).getD k 0=c * l.getD k 0:=by
 unfold ag_
 rw[List.getD_eq_getElem?_getD,List.getD_eq_getElem?_getD,List.getElem?_map,List.getElem?_eq_getElem h];rfl
theorem je_:∀{l m:List Rat} {k:Nat},k < l.length→k < m.length→(radd l m).getD k 0=l.getD k 0+m.getD k 0
 | [],_,_,h,_=>by simp at h
 | _ :: _,[],_,_,h=>by simp at h
 | x :: l,y :: m,0,_,_=>rfl
 | x :: l,y :: m,k+1,h,h'=>by
   have:=je_ (l:=l) (m:=m) (k:=k) (by simpa using h) (by simpa using h')
   simpa [radd] using this
theorem d4_:(Tryz.prog.info? 27).map (fun i=>(i.zero,i.size,i.bytes))=some (some (.agg #[.bool false,.slice none 0 0,.slice none 0 0]),3,56):=by kernel_rfl
theorem sq_:(Tryz.prog.info? 44).map (fun i=>(i.zero,i.size,i.bytes))=some (some (.agg #[.bool false,.slice none 0 0,.slice none 0 0]),3,56):=by kernel_rfl
theorem uf_(a:OA_)(n c:Nat)(L:List Fx)(w:World)(h:Fxs w a n c L)(hn:n≤1000) :
 Calls Tryz.prog 60 #[.slice a n c] w (fun e w'=>∃(a':OA_) (c':Nat),e=.returned (.slice a' n c')∧Fxs w' a' n c' L∧Below w.heap.size w w'):=by
 have HK:=hd_ h
 have HLl:=hd_ h.len
 have hbd:=h.bound
 clear h
 obtain⟨i0,hi,hz0,hz1,hz2⟩:=info_parts sq_
 go_enter Tryz.func60,Tryz.ntmps60
 go_wp2
 go_loopw [3,4] (fun mv iv wr=>∃k:Nat,k≤n∧iv=.int .i64 (k:Int)∧Hid (Cop wr w.heap.size 44 mv (L.take k))∧Hid (Below w.heap.size w wr)∧w.heap.size≤wr.heap.size) (fun _ iv _=>n - (intOf iv).toNat)
 case atStart=>exact⟨0,by omega,rfl,hd_ (Cop.nil _ _ _),hd_ (Below.refl _ _),by omega⟩
 case round=>
  obtain⟨k,hk,rfl,HO,HB,hsz⟩:=hrel
  by_cases hlt:k < n
  ·obtain⟨bb,off,rfl,e0,e1,e2,hok⟩:=HK.out.at hlt
   have HT:Hid (L.take (k+1)=L.take k ++ [L.getD k Fx.zero]):=hd_ (l4_ (by rw[HLl.out];exact hlt))
   have hkL:(L.take k).length≤1000000:=by rw[cl_ (by rw[HLl.out];exact hk)];omega
   generalize L.getD k Fx.zero=xk at *
   obtain⟨sk,ak,nk,ck,lak,bk,mk,dk,lbk⟩:=xk
   simp only at e0 e1 e2
   have HY:=hd_ hok
   have HE:Hid (w.cell? ⟨bb,off+k * 3,none⟩=some (.bool sk)∧w.cell? ⟨bb,off+k * 3+1,none⟩=some (.slice ak nk ck)∧w.cell? ⟨bb,off+k * 3+2,none⟩=some (.slice bk mk dk)):=hd_ ⟨e0,e1,e2⟩
   clear hok e0 e1 e2
   have hki:(k:Int) < (n:Int):=by omega
   obtain⟨e0,e1,e2⟩:=an_ HE.out HB.out
   go_wp2_with fail
   refine (pt_ sk ak nk ck bk mk dk _).mono ?_
   rintro e w4 ⟨rfl,b4⟩
   clear e0 e1 e2
   replace HB:=bt_ HB b4
   replace HO:=HO.l_ b4
   have hsz4:w.heap.size≤w4.heap.size:=Nat.le_trans hsz b4.size
   clear b4 hsz
   unfold frV
   have ba:=aa_ w4 (.cells #[.bool sk,.slice ak nk ck,.slice bk mk dk] 44)
   have HOa:=HO.l_ ba
   have HBa:=hd_ (ab_ HB.out ba)
   have HYa:=hd_ (HY.out.later HBa.out)
   clear ba HO HB
   go_wp2_with (at_builtin;refine gz_ _ rfl _ _ 33 rfl w.heap.size 44 i0 Tryz.underlying33 hi hz0 hz1 hz2 _ (L.take k) rfl HOa.out ⟨w4.heap.size,0,none⟩ ⟨sk,ak,nk,ck,lak,bk,mk,dk,lbk⟩ rfl (j5_ _ _ _) HYa.out hkL (by rw[al_];omega) ?_)
   intro mv5 w5 hrow hgrow hbase hcl
   have HO5:Hid (Cop w5 w.heap.size 44 mv5 (L.take (k+1))):=hd_ (by rw[HT.out];exact hrow)
   have HB5:=hd_ (HBa.out.grown hgrow (by rw[al_];omega) hbase)
   have hsz5:w.heap.size≤w5.heap.size:=Nat.le_trans (by rw[al_];omega) hgrow.size
   clear hrow hgrow hbase hcl HOa HBa HYa HT HE HY hsz4
   go_wp2
   go_roundw
   case rel=>exact⟨k+1,by omega,by go_num,HO5,HB5,hsz5⟩
   case measure=>simp[intOf];omega
  ·obtain rfl:k=n:=by omega
   have HF:=hd_ (HO.out.whole HLl.out)
   obtain⟨a9,c9,rfl,h9⟩:=HF.out.out
   rw[HLl.out] at h9 ⊢
   have HF9:=hd_ h9
   clear h9 HF HO
   go_wp2
   go_ret
   exact⟨a9,c9,rfl,HF9.out,HB.out⟩
theorem law11_of(a:OA_)(n c:Nat)(L:List Fx)(w:World)(h:Fxs w a n c L)(hn:n≤1000) :
 Calls Tryz.prog 115 #[.slice a n c] w (fun e w'=>∃(a':OA_) (c':Nat),e=.returned (.slice a' n c')∧Fxs w' a' n c' L∧Below w.heap.size w w'):=by
 have HK:=hd_ h
 have HLl:=hd_ h.len
 have hbd:=h.bound
 clear h
 obtain⟨i0,hi,hz0,hz1,hz2⟩:=info_parts d4_
 go_enter Tryz.func115,Tryz.ntmps115
 go_wp2
 go_loopw [3,4] (fun mv iv wr=>∃k:Nat,k≤n∧iv=.int .i64 (k:Int)∧Hid (Cop wr w.heap.size 27 mv (L.take k))∧Hid (Below w.heap.size w wr)∧w.heap.size≤wr.heap.size) (fun _ iv _=>n - (intOf iv).toNat)
 case atStart=>exact⟨0,by omega,rfl,hd_ (Cop.nil _ _ _),hd_ (Below.refl _ _),by omega⟩
 case round=>
  obtain⟨k,hk,rfl,HO,HB,hsz⟩:=hrel
  by_cases hlt:k < n
  ·obtain⟨bb,off,rfl,e0,e1,e2,hok⟩:=HK.out.at hlt
   have HT:Hid (L.take (k+1)=L.take k ++ [L.getD k Fx.zero]):=hd_ (l4_ (by rw[HLl.out];exact hlt))
   have hkL:(L.take k).length≤1000000:=by rw[cl_ (by rw[HLl.out];exact hk)];omega
   generalize L.getD k Fx.zero=xk at *
   obtain⟨sk,ak,nk,ck,lak,bk,mk,dk,lbk⟩:=xk
   simp only at e0 e1 e2
   have HY:=hd_ hok
   have HE:Hid (w.cell? ⟨bb,off+k * 3,none⟩=some (.bool sk)∧w.cell? ⟨bb,off+k * 3+1,none⟩=some (.slice ak nk ck)∧w.cell? ⟨bb,off+k * 3+2,none⟩=some (.slice bk mk dk)):=hd_ ⟨e0,e1,e2⟩
   clear hok e0 e1 e2
   have hki:(k:Int) < (n:Int):=by omega
   obtain⟨e0,e1,e2⟩:=an_ HE.out HB.out
   go_wp2_with fail
   refine (t8_ sk ak nk ck bk mk dk _).mono ?_
   rintro e w4 ⟨rfl,b4⟩
   clear e0 e1 e2
   replace HB:=bt_ HB b4
   replace HO:=HO.l_ b4
   have hsz4:w.heap.size≤w4.heap.size:=Nat.le_trans hsz b4.size
   clear b4 hsz
   unfold frV
   have ba:=aa_ w4 (.cells #[.bool sk,.slice ak nk ck,.slice bk mk dk] 27)
   have HOa:=HO.l_ ba
   have HBa:=hd_ (ab_ HB.out ba)
   have HYa:=hd_ (HY.out.later HBa.out)
   clear ba HO HB
   go_wp2_with (at_builtin;refine gz_ _ rfl _ _ 22 rfl w.heap.size 27 i0 Tryz.underlying22 hi hz0 hz1 hz2 _ (L.take k) rfl HOa.out ⟨w4.heap.size,0,none⟩ ⟨sk,ak,nk,ck,lak,bk,mk,dk,lbk⟩ rfl (j5_ _ _ _) HYa.out hkL (by rw[al_];omega) ?_)
   intro mv5 w5 hrow hgrow hbase hcl
   have HO5:Hid (Cop w5 w.heap.size 27 mv5 (L.take (k+1))):=hd_ (by rw[HT.out];exact hrow)
   have HB5:=hd_ (HBa.out.grown hgrow (by rw[al_];omega) hbase)
   have hsz5:w.heap.size≤w5.heap.size:=Nat.le_trans (by rw[al_];omega) hgrow.size
   clear hrow hgrow hbase hcl HOa HBa HYa HT HE HY hsz4
   go_wp2
   go_roundw
   case rel=>exact⟨k+1,by omega,by go_num,HO5,HB5,hsz5⟩
   case measure=>simp[intOf];omega
  ·obtain rfl:k=n:=by omega
   have HF:=hd_ (HO.out.whole HLl.out)
   obtain⟨a9,c9,rfl,h9⟩:=HF.out.out
   rw[HLl.out] at h9 ⊢
   have HF9:=hd_ h9
   clear h9 HF HO
   go_wp2
   go_ret
   exact⟨a9,c9,rfl,HF9.out,HB.out⟩
theorem hk_(a0:OA_)(n0 c0:Nat)(L0:List Fx)(w:World)(h0:Fxs w a0 n0 c0 L0)(hn:n0≤1000)(ht0:thin 2000000000 L0) :
 Calls Tryz.prog 50 #[.slice a0 n0 c0] w (b5_ (fqs L0) w):=by
 have HK0:=hd_ h0
 have HLl0:=hd_ h0.len
 have hbd0:=h0.bound
 have HTh0:=hd_ ht0
 clear h0 ht0
 have HTL:Hid ((fqs L0).length=n0):=hd_ (by rw[aw_,HLl0.out])
 obtain⟨T,hTe⟩:∃T,fqs L0=T:=⟨_,rfl⟩
 have ET:=hd_ hTe
 rw[hTe] at HTL ⊢
 clear hTe
 obtain⟨i0,hi,hz0,hz1,hz2⟩:=info_parts d4_
 go_enter Tryz.func50,Tryz.ntmps50
 skip
 go_wp2
 go_loopw [3,4] (fun mv iv wr=>∃k:Nat,k≤n0∧iv=.int .i64 (k:Int)∧Hid (Row wr (w.heap.size) 27 mv (T.take k))∧Hid (Below w.heap.size w wr)∧w.heap.size≤wr.heap.size) (fun _ iv _=>n0 - (intOf iv).toNat)
 case atStart=>exact⟨0,by omega,rfl,hd_ (Row.nil _ _ _),hd_ (Below.refl _ _),by omega⟩
 case round=>
  obtain⟨k,hk,rfl,HO,HB,hsz⟩:=hrel
  by_cases hlt:k < n0
  ·have hkT:k < T.length:=by rw[HTL.out];exact hlt
   have HT:Hid (T.take (k+1)=T.take k ++ [T.getD k 0]):=hd_ (f9_ hkT)
   have HTv:Hid (T.getD k 0=(L0.getD k Fx.zero).q):=hd_ (by rw[←ET.out];exact di_ (by rw[HLl0.out];exact hlt))
   have hkL:(T.take k).length≤1000000:=by rw[cl_ (Nat.le_of_lt hkT)];omega
   obtain⟨bb0,off0,rfl,e00,e10,e20,hok0⟩:=HK0.out.at hlt
   have hth0:=HTh0.out _ (eq_ (L:=L0) (k:=k) (by rw[HLl0.out];exact hlt))
   generalize L0.getD k Fx.zero=xk0 at *
   obtain⟨sk0,ak0,nk0,ck0,lak0,bk0,mk0,dk0,lbk0⟩:=xk0
   obtain⟨hA0,hB0⟩:=hok0
   simp only at e00 e10 e20 hA0 hB0 hth0
   obtain⟨hth0,htj0⟩:=hth0
   have HE0:Hid (w.cell? ⟨bb0,off0+k * 3,none⟩=some (.bool (sk0))∧w.cell? ⟨bb0,off0+k * 3+1,none⟩=some (.slice ak0 nk0 ck0)∧w.cell? ⟨bb0,off0+k * 3+2,none⟩=some (.slice bk0 mk0 dk0)):=hd_ ⟨e00,e10,e20⟩
   have AK0:=hd_ hA0
   have BK0:=hd_ hB0
   clear hA0 hB0 e00 e10 e20
   generalize T.getD k 0=tk at *
   replace HTv:Hid (tk=qval sk0 (val lak0) (val lbk0)):=HTv
   have hki:(k:Int) < (n0:Int):=by omega
   obtain⟨e00,e10,e20⟩:=an_ HE0.out HB.out
   go_wp2_with fail
   refine (ho_ _ (qval sk0 (val lak0) (val lbk0)) _ (Fr.of (AK0.out.later HB.out) (BK0.out.later HB.out) (by omega) (by omega) rfl)).mono ?_
   rintro e w4 ⟨a4,n4,c4,b4,m4,d4,rfl,h4,g4,bw⟩
   rw[←HTv.out] at h4 g4 ⊢
   clear e00 e10 e20
   replace HB:=bt_ HB bw
   replace HO:=HO.l_ bw
   have hsz4:w.heap.size≤w4.heap.size:=Nat.le_trans hsz bw.size
   have HA4:=hd_ h4
   have HB4:=hd_ g4
   clear bw hsz h4 g4
   unfold frV
   have ba:=aa_ w4 (.cells #[.bool (zneg tk.num),.slice a4 n4 c4,.slice b4 m4 d4] 27)
   have HOa:=HO.l_ ba
   have HBa:=hd_ (ab_ HB.out ba)
   have HAa:=HA4.l_ ba
   have HCa:=HB4.l_ ba
   clear ba HO HB HA4 HB4
   go_wp2_with (at_builtin;refine c7_ _ rfl _ _ 22 rfl w.heap.size 27 i0 Tryz.underlying22 hi hz0 hz1 hz2 _ (T.take k) rfl HOa.out ⟨w4.heap.size,0,none⟩ tk a4 n4 c4 b4 m4 d4 rfl (gm_ _ _ _ _ _ _ _ _ _) HAa.out HCa.out hkL (by rw[al_];omega) ?_)
   intro mv5 w5 hrow hgrow hbase hcl
   have HO5:Hid (Row w5 w.heap.size 27 mv5 (T.take (k+1))):=hd_ (by rw[HT.out];exact hrow)
   have HB5:=hd_ (HBa.out.grown hgrow (by rw[al_];omega) hbase)
   have hsz5:w.heap.size≤w5.heap.size:=Nat.le_trans (by rw[al_];omega) hgrow.size
   clear hrow hgrow hbase hcl HOa HBa HAa HCa HT hsz4
   go_wp2
   go_roundw
   case rel=>exact⟨k+1,by omega,by go_num,HO5,HB5,hsz5⟩
   case measure=>simp[intOf];omega
  ·obtain rfl:k=n0:=by omega
   have HF:=hd_ (HO.out.whole HTL.out)
   obtain⟨a9,c9,rfl,h9⟩:=HF.out.out
   rw[HTL.out] at h9 ⊢
   have HF9:=hd_ h9
   clear h9 HF HO
   go_wp2
   go_ret
   exact⟨a9,_,c9,rfl,HF9.out,HB.out⟩
theorem k7_(v:Value)(z:Rat)(a0:OA_)(n0 c0:Nat)(qs0:LR_)(w:World)(hv:Rt w v z 2000000000)(h0:Rw w a0 n0 c0 qs0)(hn:n0≤1000)(ht0:∀q∈qs0,qlen q≤2000000000) :
 Calls Tryz.prog 100 #[v,.slice a0 n0 c0] w (b5_ (ag_ z qs0) w):=by
 have HK0:=hd_ h0
 have HLl0:=hd_ h0.len
 have hbd0:=h0.bound
 have HTh0:=hd_ ht0
 clear h0 ht0
 obtain⟨va,vn,vc,vb,vm,vd,rfl,hv1,hv2,hv3,hv4⟩:=hv
 have HV1:=hd_ hv1
 have HV2:=hd_ hv2
 clear hv1 hv2
 have HTL:Hid ((ag_ z qs0).length=n0):=hd_ (by rw[a9_,HLl0.out])
 obtain⟨T,hTe⟩:∃T,ag_ z qs0=T:=⟨_,rfl⟩
 have ET:=hd_ hTe
 rw[hTe] at HTL ⊢
 clear hTe
 obtain⟨i0,hi,hz0,hz1,hz2⟩:=info_parts d4_
 go_enter Tryz.func100,Tryz.ntmps100
 unfold frV
 go_wp2
 go_loopw [5,6] (fun mv iv wr=>∃k:Nat,k≤n0∧iv=.int .i64 (k:Int)∧Hid (Row wr (w.heap.size+1) 27 mv (T.take k))∧Hid (Below w.heap.size w wr)∧w.heap.size+1≤wr.heap.size∧Hid (wr.heap[w.heap.size]? = some (.cells #[.bool (zneg z.num),.slice va vn vc,.slice vb vm vd] 27 (0,0)))) (fun _ iv _=>n0 - (intOf iv).toNat)
 case atStart=>exact⟨0,by omega,rfl,hd_ (Row.nil _ _ _),hd_ (aa_ _ _),by rw[al_];omega,hd_ (ai_ _ _ _)⟩
 case round=>
  obtain⟨k,hk,rfl,HO,HB,hsz,X0⟩:=hrel
  by_cases hlt:k < n0
  ·have hkT:k < T.length:=by rw[HTL.out];exact hlt
   have HT:Hid (T.take (k+1)=T.take k ++ [T.getD k 0]):=hd_ (f9_ hkT)
   have HTv:Hid (T.getD k 0=z * qs0.getD k 0):=hd_ (by rw[←ET.out];exact i3_ (by rw[HLl0.out];exact hlt))
   have hkL:(T.take k).length≤1000000:=by rw[cl_ (Nat.le_of_lt hkT)];omega
   obtain⟨bb0,off0,rfl,ak0,nk0,ck0,bk0,mk0,dk0,⟨e00,e10,e20⟩,hA0,hB0⟩:=HK0.out.at hlt
   have hth0:nk0≤2000000000:=by rw[←hA0.len];exact Nat.le_trans (a5_ _) (HTh0.out _ (fq_ (by rw[HLl0.out];exact hlt)))
   have htj0:mk0≤2000000000:=by rw[←hB0.len];exact Nat.le_trans (a4_ _) (HTh0.out _ (fq_ (by rw[HLl0.out];exact hlt)))
   generalize qs0.getD k 0=qk0 at *
   have HE0:Hid (w.cell? ⟨bb0,off0+k * 3,none⟩=some (.bool (zneg qk0.num))∧w.cell? ⟨bb0,off0+k * 3+1,none⟩=some (.slice ak0 nk0 ck0)∧w.cell? ⟨bb0,off0+k * 3+2,none⟩=some (.slice bk0 mk0 dk0)):=hd_ ⟨e00,e10,e20⟩
   have AK0:=hd_ hA0
   have BK0:=hd_ hB0
   clear hA0 hB0 e00 e10 e20
   generalize T.getD k 0=tk at *
   have hki:(k:Int) < (n0:Int):=by omega
   obtain⟨e00,e10,e20⟩:=an_ HE0.out HB.out
   obtain⟨x0,x1,x2⟩:=ao_ X0.out
   go_wp2
   have b0:Below wr.heap.size wr wr.drew:=(Below.refl _ _).drew
   replace HB:=bt_ HB b0
   replace HO:=HO.l_ b0
   replace X0:=bl_ X0 b0
   replace hsz:=Nat.le_trans hsz b0.size
   clear e00 e10 e20 x0 x1 x2 b0
   obtain⟨e00,e10,e20⟩:=an_ HE0.out HB.out
   obtain⟨x0,x1,x2⟩:=ao_ X0.out
   go_region_law (first
    | (refine ew_ rfl _ _ 22 rfl (w.heap.size+1) 27 i0 Tryz.underlying22 hi hz0 hz1 hz2 _ (T.take k) rfl HOa.out _ tk a4 n4 c4 b4 m4 d4 rfl (gm_ _ _ _ _ _ _ _ _ _) HAa.out HCa.out hkL (by rw[al_];omega) ?_;intro mv5 w5 hrow hgrow hbase hcl)
    | (go_simp;go_at_call 114;refine (fw_ _ _ z qk0 _ (Rt.of (HV1.out.later HB.out) (HV2.out.later HB.out) (by omega) (by omega)) (Rt.of (AK0.out.later HB.out) (BK0.out.later HB.out) (by omega) (by omega))).mono ?_;rintro e w4 ⟨a4,n4,c4,b4,m4,d4,rfl,h4,g4,bw⟩;rw[←HTv.out] at h4 g4 ⊢;clear e00 e10 e20 x0 x1 x2;replace HB:=bt_ HB bw;replace HO:=HO.l_ bw;replace X0:=bl_ X0 bw;have hsz4:w.heap.size+1≤w4.heap.size:=Nat.le_trans hsz bw.size;have HA4:=hd_ h4;have HB4:=hd_ g4;clear bw hsz h4 g4;unfold frV;have ba:=aa_ w4 (.cells #[.bool (zneg tk.num),.slice a4 n4 c4,.slice b4 m4 d4] 27);have HOa:=HO.l_ ba;have HBa:=hd_ (ab_ HB.out ba);have Xa:=hd_ (ac_ X0.out ba);have HAa:=HA4.l_ ba;have HCa:=HB4.l_ ba;clear ba HO HB HA4 HB4 X0))
   all_goals (
    have HO5:Hid (Row w5 (w.heap.size+1) 27 mv5 (T.take (k+1))):=hd_ (by rw[HT.out];exact hrow)
    have X5:=hd_ ((hgrow.block w.heap.size (by rw[al_];omega) (fun e2=>by have:=hbase _ e2.symm;omega)).trans Xa.out)
    clear Xa
    have HB5:=hd_ (HBa.out.grown hgrow (by rw[al_];omega) (fun g hg=>by have:=hbase g hg;omega))
    have hsz5:w.heap.size+1≤w5.heap.size:=Nat.le_trans (by rw[al_];omega) hgrow.size
    clear hrow hgrow hbase hcl HOa HBa HAa HCa HT hsz4
    go_wp2
    go_roundw
    case rel=>exact⟨k+1,by omega,by go_num,HO5,HB5,hsz5,X5⟩
    case measure=>simp[intOf];omega)
  ·obtain rfl:k=n0:=by omega
   have HF:=hd_ (HO.out.whole HTL.out)
   obtain⟨a9,c9,rfl,h9⟩:=HF.out.out
   rw[HTL.out] at h9 ⊢
   have HF9:=hd_ h9
   clear h9 HF HO
   go_wp2
   go_ret
   exact⟨a9,_,c9,rfl,HF9.out,HB.out⟩
theorem fj_(a:OA_)(n cap:Nat)(la:List Nat)(b:OA_)(m cap':Nat)(lb:List Nat)(w:World)(ha:Wd w a n cap la)(hb:Wd w b m cap' lb):Calls Tryz.prog 116 #[.slice a n cap,.slice b m cap'] w (bf_ (.bool (decide (la=lb))) w):=
 (ou_ a n cap la b m cap' lb w ha hb).mono fun e w' ⟨he,q,hw⟩=>⟨he,by rw[hw];exact ec_ _ _⟩
theorem mx_(s0:Bool)(a0:OA_)(n0 c0:Nat)(la0:List Nat)(b0:OA_)(m0 d0:Nat)(lb0:List Nat)(s1:Bool)(a1:OA_)(n1 c1:Nat)(la1:List Nat)(b1:OA_)(m1 d1:Nat)(lb1:List Nat)(w:World)(ha0:Wd w a0 n0 c0 la0)(hb0:Wd w b0 m0 d0 lb0)(ha1:Wd w a1 n1 c1 la1)(hb1:Wd w b1 m1 d1 lb1)(hs:s0≠s1) :
 Calls Tryz.prog 72 #[frV s0 a0 n0 c0 b0 m0 d0,frV s1 a1 n1 c1 b1 m1 d1] w (bf_ (.bool false) w):=by
 have HB:=hd_ (ab_ (aa_ w (.cells #[.bool s0,.slice a0 n0 c0,.slice b0 m0 d0] 27)) (aa_ _ (.cells #[.bool s1,.slice a1 n1 c1,.slice b1 m1 d1] 27)))
 have A0:=hd_ (ha0.later HB.out)
 have B0:=hd_ (hb0.later HB.out)
 have A1:=hd_ (ha1.later HB.out)
 have B1:=hd_ (hb1.later HB.out)
 obtain⟨hx0,hx1⟩:=c0_ w ((w.alloc (.cells #[.bool s0,.slice a0 n0 c0,.slice b0 m0 d0] 27)).alloc (.cells #[.bool s1,.slice a1 n1 c1,.slice b1 m1 d1] 27)) #[.bool s0,.slice a0 n0 c0,.slice b0 m0 d0] #[.bool s1,.slice a1 n1 c1,.slice b1 m1 d1] 27 27 (Below.refl _ _)
 have X0:=hd_ hx0
 have X1:=hd_ hx1
 clear hx0 hx1 ha0 hb0 ha1 hb1
 have hb2:(s0 == s1)=false:=by cases s0 <;> cases s1 <;> first | rfl | exact absurd rfl hs
 clear hs
 go_enter Tryz.func72,Tryz.ntmps72
 unfold frV
 obtain⟨k0,k1,k2,k3,k4,k5⟩:=ba_ X0.out X1.out
 go_wp2
 go_ret
 exact⟨rfl,HB.out⟩
theorem nn_(s0:Bool)(a0:OA_)(n0 c0:Nat)(la0:List Nat)(b0:OA_)(m0 d0:Nat)(lb0:List Nat)(s1:Bool)(a1:OA_)(n1 c1:Nat)(la1:List Nat)(b1:OA_)(m1 d1:Nat)(lb1:List Nat)(w:World)(ha0:Wd w a0 n0 c0 la0)(hb0:Wd w b0 m0 d0 lb0)(ha1:Wd w a1 n1 c1 la1)(hb1:Wd w b1 m1 d1 lb1)(hs:s0=s1)(hl:la0≠la1) :
 Calls Tryz.prog 72 #[frV s0 a0 n0 c0 b0 m0 d0,frV s1 a1 n1 c1 b1 m1 d1] w (bf_ (.bool false) w):=by
 have HB:=hd_ (ab_ (aa_ w (.cells #[.bool s0,.slice a0 n0 c0,.slice b0 m0 d0] 27)) (aa_ _ (.cells #[.bool s1,.slice a1 n1 c1,.slice b1 m1 d1] 27)))
 have A0:=hd_ (ha0.later HB.out)
 have B0:=hd_ (hb0.later HB.out)
 have A1:=hd_ (ha1.later HB.out)
 have B1:=hd_ (hb1.later HB.out)
 obtain⟨hx0,hx1⟩:=c0_ w ((w.alloc (.cells #[.bool s0,.slice a0 n0 c0,.slice b0 m0 d0] 27)).alloc (.cells #[.bool s1,.slice a1 n1 c1,.slice b1 m1 d1] 27)) #[.bool s0,.slice a0 n0 c0,.slice b0 m0 d0] #[.bool s1,.slice a1 n1 c1,.slice b1 m1 d1] 27 27 (Below.refl _ _)
 have X0:=hd_ hx0
 have X1:=hd_ hx1
 clear hx0 hx1 ha0 hb0 ha1 hb1
 subst hs
 have hb2:(s0 == s0)=true:=by cases s0 <;> rfl
 have HL:=hd_ hl
 clear hl
 go_enter Tryz.func72,Tryz.ntmps72
 unfold frV
 obtain⟨k0,k1,k2,k3,k4,k5⟩:=ba_ X0.out X1.out
 go_wp2_with fail
 refine (fj_ a0 n0 c0 la0 a1 n1 c1 la1 _ A0.out A1.out).mono ?_
 rintro e w1 ⟨rfl,b⟩
 clear k0 k1 k2 k3 k4 k5
 replace HB:=bt_ HB b
 replace X0:=bl_ X0 b
 replace X1:=bl_ X1 b
 replace A0:=A0.l_ b
 replace B0:=B0.l_ b
 replace A1:=A1.l_ b
 replace B1:=B1.l_ b
 clear b
 rw[decide_eq_false HL.out]
 obtain⟨k0,k1,k2,k3,k4,k5⟩:=ba_ X0.out X1.out
 go_wp2
 go_ret
 exact⟨rfl,HB.out⟩
theorem nh_(s0:Bool)(a0:OA_)(n0 c0:Nat)(la0:List Nat)(b0:OA_)(m0 d0:Nat)(lb0:List Nat)(s1:Bool)(a1:OA_)(n1 c1:Nat)(la1:List Nat)(b1:OA_)(m1 d1:Nat)(lb1:List Nat)(w:World)(ha0:Wd w a0 n0 c0 la0)(hb0:Wd w b0 m0 d0 lb0)(ha1:Wd w a1 n1 c1 la1)(hb1:Wd w b1 m1 d1 lb1)(hs:s0=s1)(hl:la0=la1)(hk:lb0≠lb1) :
 Calls Tryz.prog 72 #[frV s0 a0 n0 c0 b0 m0 d0,frV s1 a1 n1 c1 b1 m1 d1] w (bf_ (.bool false) w):=by
 have HB:=hd_ (ab_ (aa_ w (.cells #[.bool s0,.slice a0 n0 c0,.slice b0 m0 d0] 27)) (aa_ _ (.cells #[.bool s1,.slice a1 n1 c1,.slice b1 m1 d1] 27)))
 have A0:=hd_ (ha0.later HB.out)
 have B0:=hd_ (hb0.later HB.out)
 have A1:=hd_ (ha1.later HB.out)
 have B1:=hd_ (hb1.later HB.out)
 obtain⟨hx0,hx1⟩:=c0_ w ((w.alloc (.cells #[.bool s0,.slice a0 n0 c0,.slice b0 m0 d0] 27)).alloc (.cells #[.bool s1,.slice a1 n1 c1,.slice b1 m1 d1] 27)) #[.bool s0,.slice a0 n0 c0,.slice b0 m0 d0] #[.bool s1,.slice a1 n1 c1,.slice b1 m1 d1] 27 27 (Below.refl _ _)
 have X0:=hd_ hx0
 have X1:=hd_ hx1
 clear hx0 hx1 ha0 hb0 ha1 hb1
 subst hs
 have hb2:(s0 == s0)=true:=by cases s0 <;> rfl
 have HL:=hd_ hl
 clear hl
 have HK:=hd_ hk
 clear hk
 go_enter Tryz.func72,Tryz.ntmps72
 unfold frV
 obtain⟨k0,k1,k2,k3,k4,k5⟩:=ba_ X0.out X1.out
 go_wp2_with fail
 refine (fj_ a0 n0 c0 la0 a1 n1 c1 la1 _ A0.out A1.out).mono ?_
 rintro e w1 ⟨rfl,b⟩
 clear k0 k1 k2 k3 k4 k5
 replace HB:=bt_ HB b
 replace X0:=bl_ X0 b
 replace X1:=bl_ X1 b
 replace A0:=A0.l_ b
 replace B0:=B0.l_ b
 replace A1:=A1.l_ b
 replace B1:=B1.l_ b
 clear b
 rw[decide_eq_true HL.out]
 obtain⟨k0,k1,k2,k3,k4,k5⟩:=ba_ X0.out X1.out
 go_wp2_with fail
 refine (fj_ b0 m0 d0 lb0 b1 m1 d1 lb1 _ B0.out B1.out).mono ?_
 rintro e w2 ⟨rfl,b⟩
 clear k0 k1 k2 k3 k4 k5
 replace HB:=bt_ HB b
 replace X0:=bl_ X0 b
 replace X1:=bl_ X1 b
 replace A0:=A0.l_ b
 replace B0:=B0.l_ b
 replace A1:=A1.l_ b
 replace B1:=B1.l_ b
 clear b
 rw[decide_eq_false HK.out]
 obtain⟨k0,k1,k2,k3,k4,k5⟩:=ba_ X0.out X1.out
 go_wp2
 go_ret
 exact⟨rfl,HB.out⟩
theorem lb_(s0:Bool)(a0:OA_)(n0 c0:Nat)(la0:List Nat)(b0:OA_)(m0 d0:Nat)(lb0:List Nat)(s1:Bool)(a1:OA_)(n1 c1:Nat)(la1:List Nat)(b1:OA_)(m1 d1:Nat)(lb1:List Nat)(w:World)(ha0:Wd w a0 n0 c0 la0)(hb0:Wd w b0 m0 d0 lb0)(ha1:Wd w a1 n1 c1 la1)(hb1:Wd w b1 m1 d1 lb1)(hs:s0=s1)(hl:la0=la1)(hk:lb0=lb1) :
 Calls Tryz.prog 72 #[frV s0 a0 n0 c0 b0 m0 d0,frV s1 a1 n1 c1 b1 m1 d1] w (bf_ (.bool true) w):=by
 have HB:=hd_ (ab_ (aa_ w (.cells #[.bool s0,.slice a0 n0 c0,.slice b0 m0 d0] 27)) (aa_ _ (.cells #[.bool s1,.slice a1 n1 c1,.slice b1 m1 d1] 27)))
 have A0:=hd_ (ha0.later HB.out)
 have B0:=hd_ (hb0.later HB.out)
 have A1:=hd_ (ha1.later HB.out)
 have B1:=hd_ (hb1.later HB.out)
 obtain⟨hx0,hx1⟩:=c0_ w ((w.alloc (.cells #[.bool s0,.slice a0 n0 c0,.slice b0 m0 d0] 27)).alloc (.cells #[.bool s1,.slice a1 n1 c1,.slice b1 m1 d1] 27)) #[.bool s0,.slice a0 n0 c0,.slice b0 m0 d0] #[.bool s1,.slice a1 n1 c1,.slice b1 m1 d1] 27 27 (Below.refl _ _)
 have X0:=hd_ hx0
 have X1:=hd_ hx1
 clear hx0 hx1 ha0 hb0 ha1 hb1
 subst hs
 have hb2:(s0 == s0)=true:=by cases s0 <;> rfl
 have HL:=hd_ hl
 clear hl
 have HK:=hd_ hk
 clear hk
 go_enter Tryz.func72,Tryz.ntmps72
 unfold frV
 obtain⟨k0,k1,k2,k3,k4,k5⟩:=ba_ X0.out X1.out
 go_wp2_with fail
 refine (fj_ a0 n0 c0 la0 a1 n1 c1 la1 _ A0.out A1.out).mono ?_
 rintro e w1 ⟨rfl,b⟩
 clear k0 k1 k2 k3 k4 k5
 replace HB:=bt_ HB b
 replace X0:=bl_ X0 b
 replace X1:=bl_ X1 b
 replace A0:=A0.l_ b
 replace B0:=B0.l_ b
 replace A1:=A1.l_ b
 replace B1:=B1.l_ b
 clear b
 rw[decide_eq_true HL.out]
 obtain⟨k0,k1,k2,k3,k4,k5⟩:=ba_ X0.out X1.out
 go_wp2_with fail
 refine (fj_ b0 m0 d0 lb0 b1 m1 d1 lb1 _ B0.out B1.out).mono ?_
 rintro e w2 ⟨rfl,b⟩
 clear k0 k1 k2 k3 k4 k5
 replace HB:=bt_ HB b
 replace X0:=bl_ X0 b
 replace X1:=bl_ X1 b
 replace A0:=A0.l_ b
 replace B0:=B0.l_ b
 replace A1:=A1.l_ b
 replace B1:=B1.l_ b
 clear b
 rw[decide_eq_true HK.out]
 obtain⟨k0,k1,k2,k3,k4,k5⟩:=ba_ X0.out X1.out
 go_wp2
 go_ret
 exact⟨rfl,HB.out⟩
theorem uu_(s0:Bool)(a0:OA_)(n0 c0:Nat)(la0:List Nat)(b0:OA_)(m0 d0:Nat)(lb0:List Nat)(s1:Bool)(a1:OA_)(n1 c1:Nat)(la1:List Nat)(b1:OA_)(m1 d1:Nat)(lb1:List Nat)(w:World)(ha0:Wd w a0 n0 c0 la0)(hb0:Wd w b0 m0 d0 lb0)(ha1:Wd w a1 n1 c1 la1)(hb1:Wd w b1 m1 d1 lb1) :
 Calls Tryz.prog 72 #[frV s0 a0 n0 c0 b0 m0 d0,frV s1 a1 n1 c1 b1 m1 d1] w (bf_ (.bool (decide (s0=s1∧la0=la1∧lb0=lb1))) w):=by
 by_cases hs:s0=s1
 ·by_cases hl:la0=la1
  ·by_cases hk:lb0=lb1
   ·rw[decide_eq_true ⟨hs,hl,hk⟩];exact lb_ s0 a0 n0 c0 la0 b0 m0 d0 lb0 s1 a1 n1 c1 la1 b1 m1 d1 lb1 w ha0 hb0 ha1 hb1 hs hl hk
   ·rw[decide_eq_false (fun h=>hk h.2.2)];exact nh_ s0 a0 n0 c0 la0 b0 m0 d0 lb0 s1 a1 n1 c1 la1 b1 m1 d1 lb1 w ha0 hb0 ha1 hb1 hs hl hk
  ·rw[decide_eq_false (fun h=>hl h.2.1)];exact nn_ s0 a0 n0 c0 la0 b0 m0 d0 lb0 s1 a1 n1 c1 la1 b1 m1 d1 lb1 w ha0 hb0 ha1 hb1 hs hl
 ·rw[decide_eq_false (fun h=>hs h.1)];exact mx_ s0 a0 n0 c0 la0 b0 m0 d0 lb0 s1 a1 n1 c1 la1 b1 m1 d1 lb1 w ha0 hb0 ha1 hb1 hs

theorem j4_(a:OA_)(n c:Nat)(L:List Fx)(K N:Int)(r:Bool)(w:World)(h:Fxs w a n c L)(hK:0≤K∧K≤1000)(hr:Hid (r=true↔¬((n:Int)≤K∧thinI N L))) :
 Calls Tryz.prog 45 #[.slice a n c,.int .i64 K,.int .i64 N] w (bf_ (.bool r) w):=by
 have HK:=hd_ h
 have HLl:=hd_ h.len
 have hbd:=h.bound
 obtain⟨hK0,hK1⟩:=hK
 clear h
 go_enter Tryz.func45,Tryz.ntmps45
 go_wp2
 go_loopw [7] (fun iv wr=>∃k:Nat,k≤n∧(k:Int)≤K∧iv=.int .i64 (k:Int)∧Hid (thinI N (L.take k))∧Hid (Below w.heap.size w wr)) (fun iv _=>n - (intOf iv).toNat)
 case atStart=>exact⟨0,by omega,by omega,rfl,hd_ (fun x hx=>by simp at hx),hd_ (Below.refl _ _)⟩
 case round=>
  obtain⟨k,hk,hkK,rfl,HTh,HB⟩:=hrel
  by_cases hlt:k < n
  ·have hki:(k:Int) < (n:Int):=by omega
   by_cases hltK:(k:Int) < K
   ·obtain⟨bb,off,rfl,e0,e1,e2,-⟩:=HK.out.at hlt
    have HT:Hid (L.take (k+1)=L.take k ++ [L.getD k Fx.zero]):=hd_ (l4_ (by rw[HLl.out];exact hlt))
    have HM:Hid (L.getD k Fx.zero∈L):=hd_ (eq_ (by rw[HLl.out];exact hlt))
    generalize L.getD k Fx.zero=xk at *
    obtain⟨sk,ak,nk,ck,lak,bk,mk,dk,lbk⟩:=xk
    simp only at e0 e1 e2
    have HE:Hid (w.cell? ⟨bb,off+k * 3,none⟩=some (.bool sk)∧w.cell? ⟨bb,off+k * 3+1,none⟩=some (.slice ak nk ck)∧w.cell? ⟨bb,off+k * 3+2,none⟩=some (.slice bk mk dk)):=hd_ ⟨e0,e1,e2⟩
    clear e0 e1 e2
    obtain⟨e0,e1,e2⟩:=an_ HE.out HB.out
    go_wp2_with fail
    refine (ig_ sk ak nk ck bk mk dk N _).mono ?_
    rintro e w4 ⟨rfl,b4⟩
    clear e0 e1 e2
    replace HB:=bt_ HB b4
    clear b4
    by_cases hb:N < (nk:Int)∨N < (mk:Int)
    ·have hl:(decide (N < (nk:Int)) || decide (N < (mk:Int)))=true:=by
      rw[Bool.or_eq_true]
      exact hb.imp decide_eq_true decide_eq_true
     rw[hl]
     have hrt:r=true:=hr.out.2 (fun h8=>by
      have:=h8.2 _ HM.out
      simp only at this
      omega)
     subst hrt
     clear hl hb
     go_wp2
     go_ret
     exact⟨rfl,HB.out⟩
    ·have hl:(decide (N < (nk:Int)) || decide (N < (mk:Int)))=false:=by
      rw[decide_eq_false (fun h=>hb (.inl h)),decide_eq_false (fun h=>hb (.inr h))];rfl
     rw[hl]
     have HTh9:Hid (thinI N (L.take (k+1))):=hd_ (fun x hx=>by
      rw[HT.out] at hx
      rcases List.mem_append.1 hx with hx | hx
      ·exact HTh.out x hx
      ·rw[List.mem_singleton.1 hx]
       simp only
       omega)
     clear hl hb HTh HT HM
     go_wp2
     go_roundw
     case rel=>exact⟨k+1,by omega,by omega,by go_num,HTh9,HB⟩
     case measure=>simp[intOf];omega
   ·have hrt:r=true:=hr.out.2 (fun h8=>by have:=h8.1;omega)
    have hnk:K < (n:Int):=by omega
    subst hrt
    go_wp2
    go_ret
    exact⟨rfl,HB.out⟩
  ·obtain rfl:k=n:=by omega
   have hrf:r=false:=by
    cases r with
    | false=>rfl
    | true=>
      refine absurd (hr.out.1 rfl) (fun h8=>h8 ⟨hkK,?_⟩)
      have h9:=HTh.out
      rwa [List.take_of_length_le (by rw[HLl.out];exact Nat.le_refl _)] at h9
   subst hrf
   have hnk:¬K < (k:Int):=by omega
   go_wp2
   go_ret
   exact⟨rfl,HB.out⟩
theorem rcut_lt{n:Int}{k:Nat}:k < rcut n↔(k:Int) < n∧(k:Int) < 300:=by unfold rcut;omega
theorem rcut_le(n:Int):rcut n≤300:=by unfold rcut;omega
theorem reps_more{k m:Nat}(h:k < m):(List.replicate m (0:Rat)).take (k+1)=(List.replicate m (0:Rat)).take k ++ [0]:=by
 rw[List.take_replicate,List.take_replicate,Nat.min_eq_left (by omega),Nat.min_eq_left (by omega),List.replicate_succ']
theorem ni_(z:Int)(w:World):Calls Tryz.prog 98 #[.int .i64 z] w (LstRow 27 (List.replicate (rcut z) 0) w):=by
 obtain⟨n,hnz⟩:∃n,rcut z=n:=⟨_,rfl⟩
 have hn3:n≤300:=hnz▸rcut_le z
 have hlt':∀k:Nat,k < n↔(k:Int) < z∧(k:Int) < 300:=fun k=>hnz▸rcut_lt
 rw[hnz]
 have HLT:=hd_ hlt'
 clear hlt' hnz
 obtain⟨T,hT⟩:∃T,List.replicate n (0:Rat)=T:=⟨_,rfl⟩
 have HTm:Hid (∀k,k < n→T.take (k+1)=T.take k ++ [0]):=hd_ (fun k hk=>hT▸reps_more hk)
 have HTL:Hid (T.length=n):=hd_ (by rw[←hT,List.length_replicate])
 rw[hT]
 clear hT
 obtain⟨q0,hq0⟩:∃q:Rat,((0:Int):Rat)=q:=⟨_,rfl⟩
 have HQ0:Hid (q0=0):=hd_ (by rw[←hq0];rfl)
 have EQ:=hd_ hq0
 clear hq0
 obtain⟨i0,hi,hz0,hz1,hz2⟩:=info_parts d4_
 go_enter Tryz.func98,Tryz.ntmps98
 go_wp2
 go_loopw [3,4] (fun mv iv wr=>∃k:Nat,k≤n∧iv=.int .i64 (k:Int)∧Hid (Row wr w.heap.size 27 mv (T.take k))∧Hid (Below w.heap.size w wr)∧w.heap.size≤wr.heap.size) (fun _ iv _=>n - (intOf iv).toNat)
 case atStart=>exact⟨0,by omega,rfl,hd_ (Row.nil _ _ _),hd_ (Below.refl _ _),by omega⟩
 case round=>
  obtain⟨k,hk,rfl,HO,HB,hsz⟩:=hrel
  by_cases hlt:k < n
  ·obtain⟨hk1,hk2⟩:=(HLT.out k).1 hlt
   have HT:Hid (T.take (k+1)=T.take k ++ [q0]):=hd_ (by rw[HTm.out k hlt,HQ0.out])
   have hkL:(T.take k).length≤1000000:=by rw[cl_ (by rw[HTL.out];exact hk)];omega
   go_wp2_with fail
   refine (dg_ 0 _ c5_).mono ?_
   rintro e w4 ⟨a4,n4,c4,b4,m4,d4,rfl,h4,g4,bw⟩
   rw[EQ.out] at h4 g4 ⊢
   replace HB:=bt_ HB bw
   replace HO:=HO.l_ bw
   have hsz4:w.heap.size≤w4.heap.size:=Nat.le_trans hsz bw.size
   have HA4:=hd_ h4
   have HB4:=hd_ g4
   clear bw hsz h4 g4
   unfold frV
   have ba:=aa_ w4 (.cells #[.bool (zneg q0.num),.slice a4 n4 c4,.slice b4 m4 d4] 27)
   have HOa:=HO.l_ ba
   have HBa:=hd_ (ab_ HB.out ba)
   have HAa:=HA4.l_ ba
   have HCa:=HB4.l_ ba
   clear ba HO HB HA4 HB4
   go_wp2_with (at_builtin;refine c7_ _ rfl _ _ 22 rfl w.heap.size 27 i0 Tryz.underlying22 hi hz0 hz1 hz2 _ (T.take k) rfl HOa.out ⟨w4.heap.size,0,none⟩ q0 a4 n4 c4 b4 m4 d4 rfl (gm_ _ _ _ _ _ _ _ _ _) HAa.out HCa.out hkL (by rw[al_];omega) ?_)
   intro mv5 w5 hrow hgrow hbase hcl
   have HO5:Hid (Row w5 w.heap.size 27 mv5 (T.take (k+1))):=hd_ (by rw[HT.out];exact hrow)
   have HB5:=hd_ (HBa.out.grown hgrow (by rw[al_];omega) hbase)
   have hsz5:w.heap.size≤w5.heap.size:=Nat.le_trans (by rw[al_];omega) hgrow.size
   clear hrow hgrow hbase hcl HOa HBa HAa HCa HT hsz4
   go_wp2
   go_roundw
   case rel=>exact⟨k+1,by omega,by go_num,HO5,HB5,hsz5⟩
   case measure=>simp[intOf];omega
  ·obtain rfl:k=n:=by omega
   have HF:=hd_ (HO.out.whole HTL.out)
   clear HO
   have hno:¬((k:Int) < z∧(k:Int) < 300):=fun h=>hlt ((HLT.out k).2 h)
   by_cases hkz:(k:Int) < z
   ·have hk3:¬(k:Int) < 300:=fun h=>hno ⟨hkz,h⟩
    clear hno
    go_wp2
    go_ret
    exact⟨_,rfl,HF.out,HB.out⟩
   ·clear hno
    go_wp2
    go_ret
    exact⟨_,rfl,HF.out,HB.out⟩
theorem fxs_cells{w:World}{b off n cap:Nat}{L:List Fx}(h:Fxs w (some ⟨b,off,none⟩) n cap L):∀j u,(L.flatMap Fx.cells)[j]? = some u→w.cell? ((⟨b,off,none⟩:Addr).add j)=some u:=by
 intro j u hu
 have hj:j < (L.flatMap Fx.cells).length:=(List.getElem?_eq_some_iff.1 hu).1
 rw[b3_] at hj
 have hl:=h.len
 rcases h.2.2.2.2.2 with h0 | ⟨b',off',e,hc⟩
 ·omega
 ·simp only[Option.some.injEq,Addr.mk.injEq,and_true] at e
  obtain⟨rfl,rfl⟩:=e
  rw[Go.WideShapes.add_plain]
  obtain⟨i,hi⟩:∃i,j / 3=i:=⟨_,rfl⟩
  have hil:i < L.length:=by omega
  obtain⟨f0,f1,f2⟩:=gb_ L i hil
  obtain⟨c0,c1,c2⟩:=hc i (by omega)
  have h3:j=i * 3∨j=i * 3+1∨j=i * 3+2:=by omega
  rcases h3 with e | e | e
  ·rw[e] at hu ⊢;rw[f0] at hu;rw[←hu];exact c0
  ·rw[e] at hu ⊢;rw[f1] at hu;rw[←hu,←Nat.add_assoc];exact c1
  ·rw[e] at hu ⊢;rw[f2] at hu;rw[←hu,←Nat.add_assoc];exact c2
theorem fxs_take{w:World}{a:Option Addr}{n cap:Nat}{L:List Fx}(h:Fxs w a n cap L){k:Nat}(hk:k≤n):Fxs w a k cap (L.take k):=by
 obtain⟨h1,h2,h3,h4,h6,h5⟩:=h
 refine ⟨by rw[List.length_take];omega,by omega,h3,h4,fun x hx=>h6 x (List.mem_of_mem_take hx),?_⟩
 rcases h5 with h0 | ⟨b,off,e,hc⟩
 ·exact .inl (by omega)
 ·refine .inr ⟨b,off,e,fun j hj=>?_⟩
  have h7:=hc j (by omega)
  have e2:(L.take k).getD j Fx.zero=L.getD j Fx.zero:=by
   rw[List.getD_eq_getElem?_getD,List.getElem?_take,if_pos hj,←List.getD_eq_getElem?_getD]
  rw[e2]
  exact h7
theorem rw_take{w:World}{a:Option Addr}{n cap:Nat}{qs:List Rat}(h:Rw w a n cap qs){k:Nat}(hk:k≤n):Rw w a k cap (qs.take k):=by
 obtain⟨L,h1,h2,h3⟩:=h
 exact⟨L.take k,fxs_take h1 hk,by rw[List.map_take,h2],fun x hx=>h3 x (List.mem_of_mem_take hx)⟩
theorem flat_one(L:List Fx):∀u∈L.flatMap Fx.cells,u.oneCell'=true:=fun u hu=>by
 obtain⟨x,_,hx⟩:=List.mem_flatMap.1 hu
 exact ht_ x u hx
theorem rw_own{w:World}{base:Nat}{e:TypeId}{v:Value}{n:Nat}{L:List Fx}(h:w.ownsRow base e 3 v n (L.flatMap Fx.cells))(hn:n=L.length)(hok:∀x∈L,x.ok w)(hr:∀x∈L,x.right):∃(a:OA_) (c:Nat),v=.slice a n c∧Rw w a n c (L.map Fx.q):=by
 subst hn
 rcases h.2 with ⟨rfl,h0⟩ | ⟨g,cap,cur,rfl,hbg,hg⟩
 ·exact⟨none,0,by rw[h0],L,Fxs.own (by rw[h0];exact h0▸h) rfl hok,rfl,hr⟩
 ·exact⟨_,cap,rfl,L,Fxs.own h rfl hok,rfl,hr⟩
theorem d2_(a:OA_)(n c:Nat)(qs:LR_)(w:World)(h:Rw w a n c qs)(hn:n≤1000)(hq:∀q∈qs,qlen q≤15728640000) :
 Calls Tryz.prog 49 #[.slice a n c] w (b5_ (ah_ qs) w):=by
 have hbd:=h.bound
 have H:=hd_ h
 have HQ:=hd_ hq
 have HL:=hd_ h.len
 clear h hq
 go_enter Tryz.func49,Tryz.ntmps49
 go_wp2
 go_loopw [3] (fun iv wr=>∃k:Nat,k≤n∧iv=.int .i64 (k:Int)∧Hid (ah_ (qs.take k)=ah_ qs)∧Hid (Below w.heap.size w wr)) (fun iv _=>(intOf iv).toNat)
 case atStart=>exact⟨n,by omega,rfl,hd_ (by rw[List.take_of_length_le (by rw[HL.out];exact Nat.le_refl _)]),hd_ (Below.refl _ _)⟩
 case round=>
  obtain⟨k,hk,rfl,HN,HB⟩:=hrel
  cases k with
  | zero=>
    have HE:Hid (ah_ qs=[]):=hd_ (by rw[←HN.out];rfl)
    clear HN
    obtain⟨i0,hi,hz0,hz1,hz2⟩:=info_parts d4_
    cases a with
    | none=>
      have hc0:c=0:=by
       obtain⟨L,h1,_⟩:=H.out
       exact h1.2.2.2.1 rfl
      have hn0:n=0:=by omega
      subst hc0
      subst hn0
      go_wp2_with (at_builtin;refine wpList_append_own_none rfl _ _ 22 rfl w.heap.size 27 i0 3 Tryz.underlying22 hi _ 0 [] rfl (World.ownsRow_lit _ #[] 0 HB.out.size (by decide) rfl) rfl ?_)
      go_ret
      refine ⟨_,0,_,rfl,?_,ab_ HB.out (aa_ _ _)⟩
      rw[HE.out]
      exact⟨[],⟨rfl,Nat.le_refl _,by omega,fun e=>(by first | rfl | cases e),fun x hx=>by simp at hx,.inl rfl⟩,rfl,fun x hx=>by simp at hx⟩
    | some ad=>
      go_wp2
      go_ret
      refine ⟨_,0,_,rfl,?_,ab_ HB.out (aa_ _ _)⟩
      rw[HE.out]
      exact⟨[],⟨rfl,Nat.le_refl _,by omega,fun e=>(by first | rfl | cases e),fun x hx=>by simp at hx,.inl rfl⟩,rfl,fun x hx=>by simp at hx⟩
  | succ k=>
    obtain⟨b,off,rfl,a1,n1,c1,b1,m1,d1,⟨e0,e1,e2⟩,hA,hD⟩:=(H.out.later HB.out).at (j:=k) (by omega)
    have hqk:=HQ.out _ (fq_ (L:=qs) (k:=k) (by rw[HL.out];omega))
    have hn1:n1≤15728640000:=by rw[←hA.len];exact Nat.le_trans (a5_ _) hqk
    have hm1:m1≤15728640000:=by rw[←hD.len];exact Nat.le_trans (a4_ _) hqk
    have hki:(k:Int) < (n:Int):=by omega
    obtain⟨qk,hqe⟩:∃q,qs.getD k 0=q:=⟨_,rfl⟩
    rw[hqe] at hA hD e0
    have HZ:=h4_ _ qk wr (Rt.of hA hD hn1 hm1)
    by_cases hz:qk=0
    ·rw[decide_eq_true hz] at HZ
     have HN2:Hid (ah_ (qs.take k)=ah_ qs):=hd_ (by rw[←HN.out];exact (pnorm_cut (by rw[hqe];exact hz)).symm)
     clear hz hqe hA hD hqk HN
     go_wp2_with fail
     refine HZ.mono ?_
     rintro e w1 ⟨rfl,b1⟩
     have HB1:=hd_ (ab_ HB.out b1)
     clear b1 e0 e1 e2 HZ HB
     go_wp2
     go_roundw
     case rel=>exact⟨k,by omega,by go_num,HN2,HB1⟩
     case measure=>simp[intOf]
    ·rw[decide_eq_false hz] at HZ
     have HN2:Hid (ah_ qs=qs.take (k+1)):=hd_ (by rw[←HN.out];exact uw_ (by rw[HL.out];omega) (by rw[hqe];exact hz))
     clear hz hqe hA hD hqk HN
     obtain⟨i0,hi,hz0,hz1,hz2⟩:=info_parts d4_
     go_wp2_with fail
     refine HZ.mono ?_
     rintro e w1 ⟨rfl,b1⟩
     have HB1:=hd_ (ab_ HB.out b1)
     have hT:=rw_take (H.out.later HB1.out) (k:=k+1) hk
     obtain⟨L,hL,hLq,hLr⟩:=hT
     have hLl:L.length=k+1:=hL.len
     have HLL:=hd_ hL
     have HLQ:=hd_ hLq
     have HLR:=hd_ hLr
     have HLN:=hd_ hLl
     clear b1 e0 e1 e2 HZ HB hL hLq hLr hLl
     have hzw:c9_ (Value.agg #[.bool false,.slice none 0 0,.slice none 0 0]).cells.toList:=by
      intro u hu k
      simp[Value.cells] at hu
      rcases hu with rfl | rfl <;> simp
     have HZW:=hd_ hzw
     clear hzw
     go_wp2_with (at_builtin;refine em_ _ rfl _ _ 22 rfl w.heap.size 27 i0 (.agg #[.bool false,.slice none 0 0,.slice none 0 0]) 3 56 Tryz.underlying22 hi hz0 hz1 hz2 rfl (by decide) _ 0 [] rfl (World.ownsRow_lit _ #[] 0 HB1.out.size (by decide) rfl) ⟨b,off,none⟩ (k+1) c (L.flatMap Fx.cells) rfl (by rw[b3_,HLN.out]) (fxs_cells (HLL.out.later (aa_ _ _))) (flat_one L) (by unfold maxLen;omega) (by omega) (by rw[al_];exact Nat.le_succ_of_le HB1.out.size) (by omega) (cq_ (ai_ _ #[] _) (fun u hu=>by simp at hu)) HZW.out (dm_ _) (fun u hu=>by simp at hu) ?_)
     intro v' w2 hown hgrow hcl
     have HBa:=hd_ ((ab_ HB1.out (aa_ _ _)).grown hgrow (by rw[al_];exact Nat.le_succ_of_le HB1.out.size) (by intro k hk;simp[Value.ownBlock] at hk;have:=HB1.out.size;omega))
     have hok:∀x∈L,x.ok w2:=fun x hx=>Fx.aside ((HLL.out.ok hx).later (aa_ _ _)) (cq_ (ai_ _ #[] _) (fun u hu=>by simp at hu)) hgrow
     obtain⟨a',c',rfl,hrw⟩:=rw_own hown (by rw[HLN.out]) hok HLR.out
     have HR:=hd_ hrw
     clear hown hgrow hcl hok hrw
     go_wp2
     go_ret
     refine ⟨a',k+1,c',rfl,?_,HBa.out⟩
     rw[HN2.out,←HLQ.out]
     exact HR.out
theorem pl_(z:Int):zval (zneg z) (val (dg z.natAbs))=z:=by rw[a3_,hp_]
structure WholeSaid:Prop where
def OwnPost (w0:World) (v:Nat) (e:Ending) (w':World):Prop:=
 ∃g n cap:Nat,e=.returned (.slice (some ⟨g,0,none⟩) n cap)∧Hid (Own w' w0.heap.size g n cap (dg v))∧Below w0.heap.size w0 w'
theorem nat_addTo(w0 w:World)(g n cap p:Nat)(b:OA_)(m cap' q:Nat)(ho:Own w w0.heap.size g n cap (dg p))(hB:Below w0.heap.size w0 w)(hb:Wd w0 b m cap' (dg q))(hn:n≤2097152000000)(hm:m≤2097152000000) :
 Calls Tryz.prog 156 #[.slice (some ⟨g,0,none⟩) n cap,.slice b m cap'] w (OwnPost w0 (p+q)):=by
 obtain⟨i0,hi,hz0,hz1,hz2⟩:=info_parts g9_
 obtain⟨hb1,hb2⟩:=hb.bound
 have Ho:=hd_ ho
 have Hb:=hd_ hb
 clear ho hb
 go_enter Tryz.func156,Tryz.ntmps156
 go_wp2
 go_loopw [0] (fun s wr=>∃g' n' cap' j:Nat,s=.slice (some ⟨g',0,none⟩) n' cap'∧n'≤2097152000000∧Hid (n'=n+j∧(j=0∨n'≤m))∧Hid (Own wr w0.heap.size g' n' cap' (dg p ++ List.replicate j 0))∧Below w0.heap.size w0 wr) (fun s _=>m - k8_ s)
 case atStart=>exact⟨g,n,cap,0,rfl,by omega,hd_ ⟨rfl,.inl rfl⟩,hd_ (by simpa using Ho.out),hB⟩
 case round=>
  obtain⟨g',n',cap2,j,rfl,hn2,Hnj,Ho',hB'⟩:=hrel
  by_cases hlt:n' < m
  ·have hbase:w0.heap.size≤wr.heap.size:=hB'.size
   go_wp2_with (at_builtin;refine wpList_append_own _ rfl _ _ 25 rfl w0.heap.size 81 i0 (.int .u32 0) 1 4 Tryz.underlying25 hi hz0 hz1 hz2 rfl (by decide) _ n' _ rfl (Ho'.out.1.alloc _) ⟨wr.heap.size,0,none⟩ 1 1 (cf_ [0]) rfl rfl (Wd.lit1 wr 81 (x:=0) (by omega)).cells (d3_ _) (by unfold maxLen;omega) (by omega) (by simp;omega) ?_)
   intro v' w1 hown hgrow _
   obtain⟨g2,cap3,rfl,HO⟩:=Own.push (r:=0) hown Ho'.out.2 (by decide)
   have HO':=hd_ HO
   have hb:=Ho'.out.base
   have hB1:Below w0.heap.size w0 w1:=(hB'.alloc hbase _).grown hgrow (by simp;omega) (by intro k hk;simp[Value.ownBlock] at hk;omega)
   clear HO hown hgrow
   go_wp2
   go_roundw
   case rel=>exact⟨g2,n'+1,cap3,j+1,rfl,by omega,hd_ ⟨by have:=Hnj.out;omega,.inr (by omega)⟩,hd_ (by have:=HO'.out;rwa [List.append_assoc,←List.replicate_succ'] at this),hB1⟩
   case measure=>simp[k8_];omega
  ·have hge:Hid (n'=0∨4294967296 ^ (n' - 1)≤p+q):=hd_ (by
    have hm':=Hb.out.len
    obtain⟨hn',hj⟩:=Hnj.out
    have hnl:=Ho.out.len
    by_cases h0:n'=0
    ·exact .inl h0
    ·refine .inr ?_
     rcases hj with hj | hj
     ·have h1:=dg_ge (n:=p) (by omega)
      rw[show (dg p).length=n' by omega] at h1
      omega
     ·have h1:=dg_ge (n:=q) (by omega)
      rw[show (dg q).length=n' by omega] at h1
      omega)
   have hx:Hid (okw (dg p ++ List.replicate j 0)∧(dg p ++ List.replicate j 0).length=n'∧val (dg p ++ List.replicate j 0)=p):=hd_ ⟨Ho'.out.2,Ho'.out.len,by rw[la_,a3_]⟩
   have hqm:Hid (okw (dg q)∧(dg q).length=m∧val (dg q)=q):=hd_ ⟨cz_ _,Hb.out.len,a3_ _⟩
   have hmn:m≤n':=by omega
   generalize dg p ++ List.replicate j 0=x at Ho' hx
   have hd:decide (n' < m)=false:=decide_eq_false hlt
   clear Hnj Ho hB hlt
   go_wp2
   go_loopw [5,19] (fun cv iv w2=>∃(k c:Nat) (o:List Nat),k≤m∧iv=.int .i64 k∧cv=.int .u32 (c:Int)∧c≤1∧Hid (o.length=k)∧Hid (val o+4294967296 ^ k * c=low x k+low (dg q) k)∧Hid (Own w2 w0.heap.size g' n' cap2 (o ++ x.drop k))∧Below w0.heap.size w0 w2) (fun _ iv _=>m - (intOf iv).toNat)
   case atStart=>exact⟨0,0,[],by omega,rfl,rfl,by omega,hd_ rfl,hd_ (by rw[cj_,cj_];rfl),hd_ (by simpa using Ho'.out),hB'⟩
   case round=>
    clear Ho' hB'
    obtain⟨k,c,o,hk,rfl,rfl,hc,Hol,Hv,HO,hB2⟩:=hrel
    by_cases hlt:k < m
    ·obtain⟨bb,ob,rfl,hcb⟩:=(Hb.out.later hB2).at (by omega)
     have hcbk:=hcb k hlt
     have hcell:=HO.out.cell (k:=k) (by omega)
     rw[le_ _ _ _ Hol.out] at hcell
     have hfro:=HO.out.1.frozenAt k
     have hyl:=bi_ hqm.out.1 k
     have hxl:=bi_ hx.out.1 k
     obtain⟨xk,hxk⟩:∃xk,xk=atw x k:=⟨_,rfl⟩
     obtain⟨yk,hyk⟩:∃yk,yk=atw (dg q) k:=⟨_,rfl⟩
     rw[←hxk] at hxl hcell
     rw[←hyk] at hyl hcbk
     have Hxk:=hd_ hxk
     have Hyk:=hd_ hyk
     have hk1:(k:Int) < (n':Int):=by omega
     have hb:=HO.out.base
     clear hxk hyk hcb
     go_wp2_with (go_at_call 168;(with_reducible refine (h5_ xk yk c _ (by omega) (by omega) (by omega)).mono ?_);rintro e w' ⟨r,z,rfl,hz,hr,Hs,rfl⟩)
     go_roundw
     case rel=>exact⟨k+1,z,o ++ [r],by omega,by go_num,rfl,hz,hd_ (by have:=Hol.out;simp;omega),hd_ (tt_ Hol.out Hv.out hr (by rw[Hs.out,Hxk.out,Hyk.out])),hd_ (by have h:=HO.out.set k r hr;rwa [lf_ o x k r Hol.out (by rw[hx.out.2.1];omega)] at h),hB2.setCell hb.1 _⟩
     case measure=>simp[intOf];omega
    ·obtain rfl:k=m:=by omega
     go_wp2
     go_loopw [5,8] (fun cv iv w3=>∃(t c:Nat) (o:List Nat),k≤t∧t≤n'∧iv=.int .i64 t∧cv=.int .u32 (c:Int)∧c≤1∧Hid (o.length=t)∧Hid (val o+4294967296 ^ t * c=low x t+low (dg q) t)∧Hid (Own w3 w0.heap.size g' n' cap2 (o ++ x.drop t))∧Below w0.heap.size w0 w3) (fun _ iv _=>n' - (intOf iv).toNat)
     case atStart=>exact⟨k,c,o,by omega,by omega,rfl,rfl,hc,Hol,Hv,HO,hB2⟩
     case round=>
      clear HO hB2 Hv Hol hc
      obtain⟨t,c,o,hkt,htn,rfl,rfl,hc,Hol,Hv,HO,hB2⟩:=hrel
      by_cases hc0:c=0
      ·subst hc0
       have Hfin:=hd_ (v9_ (x:=o ++ x.drop t) (p:=p) (q:=q) HO.out.2 (by rw[add_stop Hol.out (by rw[hqm.out.2.1];exact hkt) (by simpa using Hv.out),hx.out.2.2,hqm.out.2.2]) (by rw[HO.out.len];exact hge.out))
       by_cases hlt:t < n'
       ·go_wp2
        go_ret
        exact⟨g',n',cap2,rfl,hd_ (by rw[←Hfin.out];exact HO.out),hB2⟩
       ·go_wp2
        go_ret
        exact⟨g',n',cap2,rfl,hd_ (by rw[←Hfin.out];exact HO.out),hB2⟩
      ·have Hc1:Hid (c=1):=hd_ (by omega)
       have hcp:0 < c:=by omega
       have hcpi:(0:Int) < (c:Int):=by omega
       clear hc0
       by_cases hlt:t < n'
       ·have hcell:=HO.out.cell (k:=t) (by omega)
        rw[le_ _ _ _ Hol.out] at hcell
        have hfro:=HO.out.1.frozenAt t
        have hxl:=bi_ hx.out.1 t
        obtain⟨xk,hxk⟩:∃xk,xk=atw x t:=⟨_,rfl⟩
        rw[←hxk] at hxl hcell
        have Hxk:=hd_ hxk
        have hyk:Hid (atw (dg q) t=0):=hd_ (it_ (by rw[hqm.out.2.1];exact hkt))
        have hk1:(t:Int) < (n':Int):=by omega
        have hb:=HO.out.base
        clear hxk
        go_wp2_with (go_at_call 168;(with_reducible refine (jv_ xk c _ (by omega) (by omega)).mono ?_);rintro e w' ⟨r,z,rfl,hz,hr,Hs,rfl⟩)
        go_roundw
        case rel=>exact⟨t+1,z,o ++ [r],by omega,by omega,by go_num,rfl,hz,hd_ (by have:=Hol.out;simp;omega),hd_ (tt_ Hol.out Hv.out hr (by rw[Hs.out,Hxk.out,hyk.out])),hd_ (by have h:=HO.out.set t r hr;rwa [lf_ o x t r Hol.out (by rw[hx.out.2.1];omega)] at h),hB2.setCell hb.1 _⟩
        case measure=>simp[intOf];omega
       ·obtain rfl:t=n':=by omega
        have hdrop:x.drop t=[]:=List.drop_eq_nil_of_le (by rw[hx.out.2.1];omega)
        rw[hdrop,List.append_nil] at HO
        have Hfin:=hd_ (vo_ (p:=p) (q:=q) HO.out.2 Hol.out (by have hv:=Hv.out;rw[Hc1.out] at hv;rw[hv,eh_ (by rw[hx.out.2.1];omega),eh_ (by rw[hqm.out.2.1];exact hkt),hx.out.2.2,hqm.out.2.2]))
        have hbase:w0.heap.size≤wr.heap.size:=hB2.size
        clear hdrop
        go_wp2_with (at_builtin;refine wpList_append_own _ rfl _ _ 25 rfl w0.heap.size 81 i0 (.int .u32 0) 1 4 Tryz.underlying25 hi hz0 hz1 hz2 rfl (by decide) _ t _ rfl (HO.out.1.alloc _) ⟨_,0,none⟩ 1 1 (cf_ [c]) rfl rfl (Wd.lit1 _ 81 (x:=c) (by omega)).cells (d3_ _) (by unfold maxLen;omega) (by omega) (by simp;omega) ?_)
        intro v' w1 hown hgrow _
        obtain⟨g2,cap3,rfl,HO2⟩:=Own.push (r:=c) hown HO.out.2 (by omega)
        have HO':=hd_ HO2
        have hb:=HO.out.base
        have hB1:Below w0.heap.size w0 w1:=(hB2.alloc hbase _).grown hgrow (by simp;omega) (by intro k hk;simp[Value.ownBlock] at hk;omega)
        clear HO2 hown hgrow
        go_wp2
        go_ret
        exact⟨g2,t+1,cap3,rfl,hd_ (by have h:=HO'.out;rw[Hc1.out] at h;rwa [Hfin.out] at h),hB1⟩
theorem nat_add(a:OA_)(n cap:Nat)(ls:List (List Nat))(w:World)(h:Wds w a n cap ls)(hn:n≤1000000)(hw:ei_ ls≤1048576000000) :
 Calls Tryz.prog 130 #[.slice a n cap] w (Lst (dg (vals ls)) w):=by
 obtain⟨i0,hi,hz0,hz1,hz2⟩:=info_parts g9_
 obtain⟨hb1,hb2⟩:=h.bound
 have H:=hd_ h
 clear h
 go_enter Tryz.func130,Tryz.ntmps130
 go_wp2_with fail
 refine (s8_ _ _ _ _ _ H.out hw).mono ?_
 rintro e w' ⟨N,rfl,hN,rfl⟩
 go_wp2_with (at_make;refine wpList_make_own _ rfl _ _ 25 rfl w.heap.size 81 i0 (.int .u32 0) 1 Tryz.underlying25 hi hz0 hz1 .i64 .i64 _ (N+1) rfl rfl (by omega) (by rw[hz2];omega) (by unfold maxLen;omega) (Nat.le_refl _) ?_;intro w1 hown1 hgrow1)
 have HO1:Hid (Own w1 w.heap.size w.heap.size 0 (N+1) []):=hd_ ⟨hown1,f3_⟩
 have hB1:Below w.heap.size w w1:=(Below.refl _ _).grown hgrow1 (Nat.le_refl _) (fun k hk=>by cases hk)
 clear hown1 hgrow1
 go_loopw [3,12] (fun s i wr=>∃k g m cap2:Nat,k≤n∧i=.int .i64 k∧s=.slice (some ⟨g,0,none⟩) m cap2∧m≤1048576000001∧Hid (Own wr w.heap.size g m cap2 (dg (vals (ls.take k))))∧Below w.heap.size w wr) (fun _ i _=>n - (intOf i).toNat)
 case atStart=>exact⟨0,_,0,_,by omega,rfl,rfl,by omega,hd_ (by simpa [vals,cu_] using HO1.out),hB1⟩
 case round=>
  clear HO1 hB1
  obtain⟨k,g,m,cap2,hk,rfl,rfl,hm,HO,hB⟩:=hrel
  by_cases hlt:k < n
  ·obtain⟨b,off,rfl,a',n',c',hc0,hwd⟩:=H.out.at hlt
   have hc:=cell_later hB hc0
   have hn':n'≤ei_ ls:=by rw[←hwd.len];exact q3_ _ _ (by rw[H.out.len];exact hlt)
   have HW:=hd_ hwd
   have HW2:=hwd.l_ hB
   clear hwd hc0
   have hk1:(k:Int) < (n:Int):=by omega
   go_wp2_with fail
   refine (ej_ _ _ _ _ _ HW2.out).mono ?_
   rintro e w' ⟨m2,rfl,Hm,hmn,HT,rfl⟩
   have HT0:Hid (Wd w a' m2 c' (dg (val (ls.getD k [])))):=hd_ (by rw[Hm.out];exact HW.out.trim)
   go_wp2_with fail
   refine (nat_addTo w _ g m cap2 _ _ _ _ _ HO.out hB HT0.out (by omega) (by omega)).mono ?_
   rintro e w2 ⟨g2,m3,cap3,rfl,HO2,hB2⟩
   have hv:=vals_take ls k (by rw[H.out.len];exact hlt)
   rw[←hv] at HO2
   have hm3:m3≤1048576000001:=by
    have h1:=HO2.out.len
    have h2:=sk_ (ls:=ls.take (k+1)) (fun l hl=>H.out.oks l (List.mem_of_mem_take hl)) (by rw[List.length_take];have:=H.out.len;omega)
    have h3:=p5_ ls (k+1)
    omega
   clear HO HT HT0 HW HW2 hB hv Hm hmn
   go_wp2
   go_roundw
   case rel=>exact⟨k+1,g2,m3,cap3,by omega,by go_num,rfl,hm3,HO2,hB2⟩
   case measure=>simp[intOf];omega
  ·have hkn:k=n:=by omega
   have hfin:dg (vals (ls.take k))=dg (vals ls):=by rw[List.take_of_length_le (by rw[H.out.len];omega)]
   rw[hfin] at HO
   clear hkn hfin
   go_wp2
   go_ret
   exact⟨_,m,cap2,rfl,HO.out.wd,hB⟩
theorem un_(a:OA_)(n cap:Nat)(la:List Nat)(b:OA_)(m cap':Nat)(lb:List Nat)(w:World)(ha:Wd w a n cap la)(hb:Wd w b m cap' lb)(hn:n≤17592183947264)(hle:Hid (val lb≤val la)) :
 Calls Tryz.prog 157 #[.slice a n cap,.slice b m cap'] w (Lst (dg (val la - val lb)) w):=by
 obtain⟨hb1,hb2⟩:=ha.bound
 obtain⟨hb3,hb4⟩:=hb.bound
 have Ha:=hd_ ha
 have Hb:=hd_ hb
 clear ha hb
 go_enter Tryz.func157,Tryz.ntmps157
 go_wp2_with fail
 refine (ej_ _ _ _ _ _ Ha.out).mono ?_
 rintro e w' ⟨p,rfl,Hp,hp,HA,rfl⟩
 go_wp2_with fail
 refine (ej_ _ _ _ _ _ Hb.out).mono ?_
 rintro e w' ⟨q,rfl,Hq,hq,HB,rfl⟩
 have hqp:q≤p:=by rw[Hp.out,Hq.out];exact ax_ hle.out
 go_wp2_with fail
 refine (li_ _ _ _ _ _ HA.out (by omega)).mono ?_
 rintro e w1 ⟨g,r,rfl,Hr,Hown,hB1⟩
 rw[a3_] at Hr Hown
 have HO:Hid (Own w1 w.heap.size g r r (dg (val la))):=hd_ ⟨Hown.out,cz_ _⟩
 have hrp:r=p:=by rw[Hr.out,Hp.out]
 clear Hown Hr
 subst hrp
 have hx:Hid (okw (dg (val la))∧(dg (val la)).length=r∧val (dg (val la))=val la):=hd_ ⟨cz_ _,Hp.out.symm,a3_ _⟩
 have hy:Hid (okw (dg (val lb))∧(dg (val lb)).length=q∧val (dg (val lb))=val lb):=hd_ ⟨cz_ _,Hq.out.symm,a3_ _⟩
 clear Ha HA Hb Hp Hq
 generalize dg (val la)=x at *
 generalize dg (val lb)=y at *
 go_wp2
 go_loopw [6,18] (fun cv iv w2=>∃(k c:Nat) (o:List Nat),k≤q∧iv=.int .i64 k∧cv=.int .u32 (c:Int)∧c≤1∧Hid (o.length=k)∧Hid (low x k+4294967296 ^ k * c=low y k+val o)∧Hid (Own w2 w.heap.size g r r (o ++ x.drop k))∧Below w.heap.size w w2) (fun _ iv _=>q - (intOf iv).toNat)
 case atStart=>exact⟨0,0,[],by omega,rfl,rfl,by omega,hd_ rfl,hd_ (by rw[cj_,cj_];rfl),hd_ (by simpa using HO.out),hB1⟩
 case round=>
  clear HO hB1
  obtain⟨k,c,o,hk,rfl,rfl,hc,Hol,Hv,HO,hB2⟩:=hrel
  by_cases hlt:k < q
  ·obtain⟨bb,ob,rfl,hcb⟩:=(HB.out.later hB2).at (by omega)
   have hcbk:=hcb k hlt
   have hcell:=HO.out.cell (k:=k) (by omega)
   rw[le_ _ _ _ Hol.out] at hcell
   have hfro:=HO.out.1.frozenAt k
   have hyl:=bi_ hy.out.1 k
   have hxl:=bi_ hx.out.1 k
   obtain⟨xk,hxk⟩:∃xk,xk=atw x k:=⟨_,rfl⟩
   obtain⟨yk,hyk⟩:∃yk,yk=atw y k:=⟨_,rfl⟩
   rw[←hxk] at hxl hcell
   rw[←hyk] at hyl hcbk
   have Hxk:=hd_ hxk
   have Hyk:=hd_ hyk
   have hk1:(k:Int) < (r:Int):=by omega
   have hb:=HO.out.base
   clear hxk hyk hcb
   go_wp2_with (go_at_call 169;(with_reducible refine (ge_ xk yk c _ (by omega) (by omega) (by omega)).mono ?_);rintro e w' ⟨s,z,rfl,hz,hs,Hs,rfl⟩)
   go_roundw
   case rel=>exact⟨k+1,z,o ++ [s],by omega,by go_num,rfl,hz,hd_ (by have:=Hol.out;simp;omega),hd_ (io_ Hol.out Hv.out (by rw[←Hxk.out,←Hyk.out];exact Hs.out)),hd_ (by have h:=HO.out.set k s hs;rwa [lf_ o x k s Hol.out (by rw[hx.out.2.1];omega)] at h),hB2.setCell hb.1 _⟩
   case measure=>simp[intOf];omega
  ·obtain rfl:k=q:=by omega
   go_wp2
   go_loopw [6,9] (fun cv iv w3=>∃(t c:Nat) (o:List Nat),k≤t∧t≤r∧iv=.int .i64 t∧cv=.int .u32 (c:Int)∧c≤1∧Hid (o.length=t)∧Hid (low x t+4294967296 ^ t * c=low y t+val o)∧Hid (Own w3 w.heap.size g r r (o ++ x.drop t))∧Below w.heap.size w w3) (fun _ iv _=>r - (intOf iv).toNat)
   case atStart=>exact⟨k,c,o,by omega,by omega,rfl,rfl,hc,Hol,Hv,HO,hB2⟩
   case round=>
    clear HO hB2 Hv Hol hc
    obtain⟨t,c,o,hkt,htn,rfl,rfl,hc,Hol,Hv,HO,hB2⟩:=hrel
    by_cases hc0:c=0
    ·subst hc0
     have hfin:val (o ++ x.drop t)=val la - val lb:=by
      have:=sub_stop (la:=x) (lb:=y) Hol.out (by rw[hy.out.2.1];exact hkt) (by simpa using Hv.out)
      rw[hx.out.2.2,hy.out.2.2] at this
      omega
     have Hfin:=hd_ hfin
     clear hfin
     by_cases hlt:t < r
     ·go_wp2_with fail
      refine (ej_ _ _ _ _ _ HO.out.wd).mono ?_
      rintro e w' ⟨s,rfl,Hs,hs,HT,rfl⟩
      rw[Hfin.out] at HT
      go_wp2
      go_ret
      exact⟨_,s,_,rfl,HT.out,hB2⟩
     ·go_wp2_with fail
      refine (ej_ _ _ _ _ _ HO.out.wd).mono ?_
      rintro e w' ⟨s,rfl,Hs,hs,HT,rfl⟩
      rw[Hfin.out] at HT
      go_wp2
      go_ret
      exact⟨_,s,_,rfl,HT.out,hB2⟩
    ·have Hc1:Hid (c=1):=hd_ (by omega)
     have hcp:0 < c:=by omega
     have hcpi:(0:Int) < (c:Int):=by omega
     clear hc0
     by_cases hlt:t < r
     ·have hcell:=HO.out.cell (k:=t) (by omega)
      rw[le_ _ _ _ Hol.out] at hcell
      have hfro:=HO.out.1.frozenAt t
      have hxl:=bi_ hx.out.1 t
      obtain⟨xk,hxk⟩:∃xk,xk=atw x t:=⟨_,rfl⟩
      rw[←hxk] at hxl hcell
      have Hxk:=hd_ hxk
      have Hyk:Hid (atw y t=0):=hd_ (it_ (by rw[hy.out.2.1];exact hkt))
      have hk1:(t:Int) < (r:Int):=by omega
      have hb:=HO.out.base
      clear hxk
      go_wp2_with (go_at_call 169;(with_reducible refine (pq_ xk c _ (by omega) (by omega)).mono ?_);rintro e w' ⟨s,z,rfl,hz,hs,Hs,rfl⟩)
      go_roundw
      case rel=>exact⟨t+1,z,o ++ [s],by omega,by omega,by go_num,rfl,hz,hd_ (by have:=Hol.out;simp;omega),hd_ (io_ Hol.out Hv.out (by rw[←Hxk.out,Hyk.out];exact Hs.out)),hd_ (by have h:=HO.out.set t s hs;rwa [lf_ o x t s Hol.out (by rw[hx.out.2.1];omega)] at h),hB2.setCell hb.1 _⟩
      case measure=>simp[intOf];omega
     ·exfalso
      obtain rfl:t=r:=by omega
      have h1:=Hv.out
      have h2:=ee_ (okw_append.1 HO.out.2).1
      have h3:=hle.out
      rw[Hc1.out,eh_ (by rw[hx.out.2.1];omega),eh_ (by rw[hy.out.2.1];exact hkt),hx.out.2.2,hy.out.2.2] at h1
      rw[Hol.out] at h2
      omega
theorem nat_gap(a:OA_)(n cap:Nat)(la:List Nat)(b:OA_)(m cap':Nat)(lb:List Nat)(w:World)(ha:Wd w a n cap la)(hb:Wd w b m cap' lb)(hn:n≤17592183947264)(hm:m≤17592183947264) :
 Calls Tryz.prog 131 #[.slice a n cap,.slice b m cap'] w (Lst2 (dg (val la - val lb+(val lb - val la))) (.int .i64 (cmpI (val la) (val lb))) w):=by
 have Ha:=hd_ ha
 have Hb:=hd_ hb
 clear ha hb
 go_enter Tryz.func131,Tryz.ntmps131
 go_wp2_with fail
 refine (nat_cmp _ _ _ _ _ _ _ _ _ Ha.out Hb.out).mono ?_
 rintro e w1 ⟨rfl,hB1⟩
 have Ha1:=Ha.l_ hB1
 have Hb1:=Hb.l_ hB1
 by_cases hlt:val la < val lb
 ·have hc:cmpI (val la) (val lb) < 0:=by rw[fv_ hlt];omega
  have hv:val la - val lb+(val lb - val la)=val lb - val la:=by omega
  have Hv:=hd_ hv
  have hle:Hid (val la≤val lb):=hd_ (by omega)
  clear hlt hv
  generalize cmpI (val la) (val lb)=c at *
  go_wp2_with fail
  refine (un_ _ _ _ _ _ _ _ _ _ Hb1.out Ha1.out hm hle).mono ?_
  rintro e w2 ⟨a2,n2,c2,rfl,h2,hB2⟩
  have H2:=hd_ h2
  clear h2
  go_wp2
  go_ret2
  exact⟨_,_,_,rfl,by rw[Hv.out];exact H2.out,ab_ hB1 hB2⟩
 ·have hc:¬cmpI (val la) (val lb) < 0:=by unfold cmpI;split <;> (try split) <;> omega
  have hv:val la - val lb+(val lb - val la)=val la - val lb:=by omega
  have Hv:=hd_ hv
  have hle:Hid (val lb≤val la):=hd_ (by omega)
  clear hlt hv
  generalize cmpI (val la) (val lb)=c at *
  go_wp2_with fail
  refine (un_ _ _ _ _ _ _ _ _ _ Ha1.out Hb1.out hn hle).mono ?_
  rintro e w2 ⟨a2,n2,c2,rfl,h2,hB2⟩
  have H2:=hd_ h2
  clear h2
  go_wp2
  go_ret2
  exact⟨_,_,_,rfl,by rw[Hv.out];exact H2.out,ab_ hB1 hB2⟩
theorem natSaid:NatSaid where
 norm:=fun a n cap l w h hn=>(li_ a n cap l w h hn).mono fun _ _ ⟨_,_,he,_,HO,hB⟩=>⟨_,_,_,he,Wd.own HO.out (cz_ _),hB⟩
 of:=nat_of
 small:=fun a n cap l w h _=>nat_small a n cap l w h
 zero:=fun a n cap l w h _=>nat_zero a n cap l w h
 cmp:=fun a n cap la b m cap' lb w ha hb _ _=>nat_cmp a n cap la b m cap' lb w ha hb
 add:=nat_add
 gap:=nat_gap
end Go.Proofs.YtocebjbjnfammaaGreat
