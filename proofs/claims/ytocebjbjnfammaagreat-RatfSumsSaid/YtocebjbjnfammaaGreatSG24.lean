import Derived.Test.YtocebjbjnfammaaGreatSG23
import Derived.Deep.RegionHeld3
import Derived.Test.YtocebjbjnfammaaGreatSG7
import Derived.Test.YtocebjbjnfammaaGreatSG8
import Derived.Test.YtocebjbjnfammaaGreatSG11
import Derived.Test.YtocebjbjnfammaaGreatSG5
import Derived.Test.YtocebjbjnfammaaGreatSG21
import Derived.Test.YtocebjbjnfammaaGreatSG6
import Derived.Test.YtocebjbjnfammaaGreatSG1
set_option maxRecDepth 4096
set_option maxHeartbeats 16000000
namespace Go.Proofs.YtocebjbjnfammaaGreat
open Go.RowKit
theorem kg_:∀l m:LR_,rdot l m=rsum (List.zipWith (fun x y=>x * y) l m)
 | [],[] => rfl
 | [],_ :: _=>rfl
 | _ :: _,[] => rfl
 | x :: l,y :: m=>by
   show x * y+rdot l m=x * y+rsum (List.zipWith (fun x y=>x * y) l m)
   rw[kg_ l m]
def he_ (l m:LR_):List Rat:=List.zipWith (fun x y=>x * y) l m
theorem o0_{l m:List Rat}(h:l.length=m.length):(he_ l m).length=l.length:=by
 unfold he_
 rw[List.length_zipWith,←h,Nat.min_self]
theorem se_{l m:List Rat}{k:Nat}(h:k < l.length)(h':k < m.length):(he_ l m).getD k 0=l.getD k 0 * m.getD k 0:=by
 unfold he_
 rw[List.getD_eq_getElem?_getD,List.getElem?_zipWith,List.getElem?_eq_getElem h,List.getElem?_eq_getElem h',List.getD_eq_getElem?_getD,List.getD_eq_getElem?_getD,List.getElem?_eq_getElem h,List.getElem?_eq_getElem h'];rfl
theorem sb_{N K:Nat}{l m:List Rat}(hl:∀q∈l,qlen q≤N)(hm:∀q∈m,qlen q≤K):∀q∈he_ l m,qlen q≤N+K+1:=fun q hq=>by
 obtain⟨i,hi,rfl⟩:=List.getElem_of_mem hq
 unfold he_ at hi
 rw[List.length_zipWith] at hi
 have h1:=hl _ (List.getElem_mem (show i < l.length by omega))
 have h2:=hm _ (List.getElem_mem (show i < m.length by omega))
 have h3:=cu_ (l[i]'(by omega)) (m[i]'(by omega))
 unfold he_
 rw[List.getElem_zipWith]
 omega
theorem LstT.right{L:List Fx}{w w':World}{e:Ending}(h:LstT L w e w')(hr:∀x∈L,x.right):LstQ (rsum (fqs L)) w e w':=by
 obtain⟨s,a,n,c,la,b,m,d,lb,rfl,h1,h2,h3,h4,-,h6⟩:=h
 have h5:(⟨s,a,n,c,la,b,m,d,lb⟩:Fx).right:=h4.elim (hr _) id
 obtain⟨r1,r2,r3⟩:=h5
 have h3':(⟨s,a,n,c,la,b,m,d,lb⟩:Fx).q=rsum (fqs L):=h3
 rw[h3'] at r1 r2 r3
 simp only at r1 r2 r3
 rw[r2] at h1
 rw[r3] at h2
 rw[r1]
 exact⟨a,n,c,b,m,d,rfl,h1,h2,h6⟩
theorem LstT.many{L:List Fx}{w w':World}{e:Ending}(h:LstT L w e w')(hr:L.length≠1):LstQ (rsum (fqs L)) w e w':=by
 obtain⟨s,a,n,c,la,b,m,d,lb,rfl,h1,h2,h3,-,h4,h6⟩:=h
 obtain⟨r1,r2,r3⟩:=h4 hr
 have h3':(⟨s,a,n,c,la,b,m,d,lb⟩:Fx).q=rsum (fqs L):=h3
 rw[h3'] at r1 r2 r3
 simp only at r1 r2 r3
 rw[r2] at h1
 rw[r3] at h2
 rw[r1]
 exact⟨a,n,c,b,m,d,rfl,h1,h2,h6⟩
theorem total_rw{a:Option Addr}{n cap:Nat}{qs:List Rat}{N:Nat}(w:World)(h:Rw w a n cap qs)(hq:∀q∈qs,qlen q≤N)(hb:1+(n - 1) * (N+3)≤2097152000)(hN:N≤2097152000):Calls Tryz.prog 145 #[.slice a n cap] w (LstQ (rsum qs) w):=by
 obtain⟨L,h1,h2,h3⟩:=h
 have ht:thin N L:=fun x hx=>by
  obtain⟨h4,h5,h6⟩:=h3 x hx
  exact qj_ (h1.ok hx) ⟨h4,h5,h6⟩ (hq _ (h2▸List.mem_map.2 ⟨x,hx,rfl⟩))
 refine (qz_ n a cap L N w h1 ht hb hN).mono fun e w' h9=>?_
 have h8:=h9.right h3
 unfold fqs at h8
 rwa [h2] at h8
theorem r3_(a0:OA_)(n0 c0:Nat)(L0:List Fx)(a1:OA_)(n1 c1:Nat)(L1:List Fx)(N K:Nat)(w:World)(h0:Fxs w a0 n0 c0 L0)(h1:Fxs w a1 n1 c1 L1)(hn:n0≤300)(ht0:thin N L0)(ht1:thin K L1)(hs:Hid (n0=n1))(hb9:1+n0 * (N+K+6)≤2097152000)(hN9:N+K+3≤2097152000):Calls Tryz.prog 120 #[.slice a0 n0 c0,.slice a1 n1 c1] w (gp_ (rdot (fqs L0) (fqs L1)) (.bool true) w):=by
 obtain⟨K9,hK9⟩:∃K9,N+1+(K+1)+1=K9:=⟨_,rfl⟩
 have HK9:Hid (K9+3=N+K+6):=hd_ (by omega)
 have hK8:K9≤2097152000:=by omega
 have HQ9:Hid (∀q∈he_ (fqs L0) (fqs L1),qlen q≤K9):=hd_ (by rw[←hK9];exact sb_ (ht0.qs h0.oks) (ht1.qs h1.oks))
 clear hK9
 have HK0:=hd_ h0
 have HLl0:=hd_ h0.len
 have hbd0:=h0.bound
 have HTh0:=hd_ ht0
 clear h0 ht0
 have HK1:=hd_ h1
 have HLl1:=hd_ h1.len
 have hbd1:=h1.bound
 have HTh1:=hd_ ht1
 clear h1 ht1
 obtain rfl:=hs.out
 clear hs
 obtain⟨q,hq9⟩:∃q,rdot (fqs L0) (fqs L1)=q:=⟨_,rfl⟩
 rw[hq9]
 have HSM0:Hid (rsum (he_ (fqs L0) (fqs L1))=q):=hd_ (by rw[←hq9,kg_];rfl)
 clear hq9
 have HTL:Hid ((he_ (fqs L0) (fqs L1)).length=n0):=hd_ (by rw[o0_ (by rw[av_,av_,HLl0.out,HLl1.out]),av_,HLl0.out])
 obtain⟨T,hTe⟩:∃T,he_ (fqs L0) (fqs L1)=T:=⟨_,rfl⟩
 have ET:=hd_ hTe
 have HQL:Hid (∀q∈T,qlen q≤K9):=hd_ (hTe▸HQ9.out)
 have HSM:Hid (rsum T=q):=hd_ (hTe▸HSM0.out)
 clear HQ9 HSM0
 rw[hTe] at HTL
 try rw[hTe]
 clear hTe
 obtain⟨i0,hi,hz0,hz1,hz2⟩:=info_parts eh_
 go_enter Tryz.func120,Tryz.ntmps120
 try unfold frV
 go_wp2_with (at_make;refine cp_ _ rfl _ _ 33 rfl (w.heap.size+1) 44 i0 Tryz.underlying33 hi hz0 hz1 hz2 _ _ _ _ n0 rfl rfl (by omega) (by omega) (by omega) (by simp) ?_;intro wm hmade hgm hszm)
 have HO0:=hd_ (Half.start hmade)
 have HB0:Hid (Below w.heap.size w wm):=hd_ (ab_ (aa_ _ _) ((Below.refl _ _).grown hgm (Nat.le_refl _) (fun k hk=>by cases hk)))
 have X00:Hid (wm.heap[w.heap.size]? = some (.cells #[.bool false,.slice none 0 0,.slice none 0 0] 44 (0,0))):=hd_ (ac_ (ai_ _ _ _) ((Below.refl _ _).grown hgm (Nat.le_refl _) (fun k hk=>by cases hk)))
 clear hmade hgm
 try simp only[World.size_alloc] at hszm HO0
 go_loopw [19] (fun iv wr=>∃k r:Nat,k+r=n0∧iv=.int .i64 (k:Int)∧Hid (Half wr (w.heap.size+1) 44 (.slice (some ⟨w.heap.size+1,0,none⟩) n0 n0) (T.take k) r)∧Hid (Below w.heap.size w wr)∧w.heap.size+1 < wr.heap.size∧Hid (wr.heap[w.heap.size]? = some (.cells #[.bool false,.slice none 0 0,.slice none 0 0] 44 (0,0)))) (fun iv _=>n0 - (intOf iv).toNat)
 case atStart=>exact⟨0,n0,by omega,rfl,HO0,HB0,by omega,X00⟩
 case round=>
  clear HO0 HB0 X00
  obtain⟨k,r,hk,rfl,HO,HB,hsz,X0⟩:=hrel
  by_cases hlt:k < n0
  ·have hkT:k < T.length:=by rw[HTL.out];exact hlt
   obtain⟨r,rfl⟩:∃r',r=r'+1:=⟨r - 1,by omega⟩
   have HT:Hid (T.take (k+1)=T.take k ++ [T.getD k 0]):=hd_ (gk_ hkT)
   have HTv:Hid (T.getD k 0=(L0.getD k Fx.zero).q * (L1.getD k Fx.zero).q):=hd_ (by rw[←ET.out];rw[se_ (by rw[av_,HLl0.out];exact hlt) (by rw[av_,HLl1.out];exact hlt),di_ (by rw[HLl0.out];exact hlt),di_ (by rw[HLl1.out];exact hlt)])
   obtain⟨bb0,off0,rfl,e00,e10,e20,hok0⟩:=HK0.out.at hlt
   have hth0:=HTh0.out _ (es_ (L:=L0) (k:=k) (by rw[HLl0.out];exact hlt))
   generalize L0.getD k Fx.zero=xk0 at *
   obtain⟨sk0,ak0,nk0,ck0,lak0,bk0,mk0,dk0,lbk0⟩:=xk0
   obtain⟨hA0,hB0⟩:=hok0
   simp only at e00 e10 e20 hA0 hB0 hth0
   obtain⟨hth0,htj0⟩:=hth0
   have HE0:Hid (w.cell? ⟨bb0,off0+k * 3,none⟩=some (.bool sk0)∧w.cell? ⟨bb0,off0+k * 3+1,none⟩=some (.slice ak0 nk0 ck0)∧w.cell? ⟨bb0,off0+k * 3+2,none⟩=some (.slice bk0 mk0 dk0)):=hd_ ⟨e00,e10,e20⟩
   have AK0:=hd_ hA0
   have BK0:=hd_ hB0
   clear hA0 hB0 e00 e10 e20
   obtain⟨bb1,off1,rfl,e01,e11,e21,hok1⟩:=HK1.out.at hlt
   have hth1:=HTh1.out _ (es_ (L:=L1) (k:=k) (by rw[HLl1.out];exact hlt))
   generalize L1.getD k Fx.zero=xk1 at *
   obtain⟨sk1,ak1,nk1,ck1,lak1,bk1,mk1,dk1,lbk1⟩:=xk1
   obtain⟨hA1,hB1⟩:=hok1
   simp only at e01 e11 e21 hA1 hB1 hth1
   obtain⟨hth1,htj1⟩:=hth1
   have HE1:Hid (w.cell? ⟨bb1,off1+k * 3,none⟩=some (.bool sk1)∧w.cell? ⟨bb1,off1+k * 3+1,none⟩=some (.slice ak1 nk1 ck1)∧w.cell? ⟨bb1,off1+k * 3+2,none⟩=some (.slice bk1 mk1 dk1)):=hd_ ⟨e01,e11,e21⟩
   have AK1:=hd_ hA1
   have BK1:=hd_ hB1
   clear hA1 hB1 e01 e11 e21
   generalize T.getD k 0=tk at *
   replace HTv:Hid (tk=qval sk0 (val lak0) (val lbk0) * qval sk1 (val lak1) (val lbk1)):=HTv
   have hki:(k:Int) < (n0:Int):=by omega
   have hk0:(0:Int)≤(k:Int):=by omega
   obtain⟨e00,e10,e20⟩:=aq_ HE0.out HB.out
   obtain⟨e01,e11,e21⟩:=aq_ HE1.out HB.out
   obtain⟨x0,x1,x2⟩:=as_ X0.out
   go_wp2
   have b0:Below wr.heap.size wr wr.drew:=(Below.refl _ _).drew
   replace HB:=bt_ HB b0
   replace HO:=HO.l_ b0
   replace X0:=bl_ X0 b0
   replace hsz:=Nat.lt_of_lt_of_le hsz b0.size
   clear e00 e10 e20 e01 e11 e21 x0 x1 x2 b0
   obtain⟨e00,e10,e20⟩:=aq_ HE0.out HB.out
   obtain⟨e01,e11,e21⟩:=aq_ HE1.out HB.out
   obtain⟨x0,x1,x2⟩:=as_ X0.out
   first | go_region_with (first
    | (go_at_call 43;refine (fracSaid.mul _ _ (qval sk0 (val lak0) (val lbk0)) (qval sk1 (val lak1) (val lbk1)) _ (Fr.of (AK0.out.later HB.out) (BK0.out.later HB.out) (by omega) (by omega) rfl) (Fr.of (AK1.out.later HB.out) (BK1.out.later HB.out) (by omega) (by omega) rfl)).mono ?_;rintro e w4 ⟨a4,n4,c4,b4,m4,d4,rfl,h4,g4,bw⟩;rw[←HTv.out] at h4 g4 ⊢;clear e00 e10 e20 e01 e11 e21 x0 x1 x2;replace HB:=bt_ HB bw;replace HO:=HO.l_ bw;replace X0:=bl_ X0 bw;have hsz4:w.heap.size+1 < w4.heap.size:=Nat.lt_of_lt_of_le hsz bw.size;have HA4:=hd_ h4;have HB4:=hd_ g4;clear bw hsz h4 g4;unfold frV;obtain⟨⟨p0,p1,p2⟩,f0,f1,f2⟩:=HO.out.cell (k:=k) (by rw[cq_ (Nat.le_of_lt hkT)]))) | fail
   all_goals (
    obtain⟨hst,hgr⟩:=HO.out.stored (k:=k) (by rw[cq_ (Nat.le_of_lt hkT)]) tk a4 n4 c4 b4 m4 d4 HA4.out HB4.out
    rw[←HT.out] at hst
    have HS:=hd_ hst
    have HB5:=hd_ (HB.out.grown hgr HB.out.size (fun g' hg'=>by simp at hg';omega))
    have hsz5:=Nat.lt_of_lt_of_le hsz4 hgr.size
    have X5:=hd_ ((hgr.block w.heap.size (by omega) (fun e2=>by simp at e2)).trans X0.out)
    clear X0
    clear hst hgr HA4 HB4 HO HB HT HTv p0 p1 p2 f0 f1 f2
    go_wp2
    go_roundw
    case rel=>exact⟨k+1,r,by omega,by go_num,HS,HB5,hsz5,X5⟩
    case measure=>simp[intOf];omega)
  ·obtain rfl:k=n0:=by omega
   have HF:=hd_ (HO.out.whole HTL.out (by omega))
   obtain⟨a9,c9,e9,h9⟩:=HF.out.out
   rw[HTL.out] at e9 h9
   cases e9
   have HF9:=hd_ h9
   clear HO h9 HF
   have hqn:1+(k - 1) * (K9+3)≤2097152000:=by rw[HK9.out];exact Nat.le_trans (Nat.add_le_add_left (Nat.mul_le_mul_right _ (Nat.sub_le k 1)) 1) hb9
   go_wp2_with fail
   refine (total_rw _ HF9.out HQL.out hqn (by omega)).mono ?_
   rintro e w5 ⟨a1,n1,c1,b1,m1,d1,rfl,h1,g1,bw⟩
   replace HB:=bt_ HB bw
   have HR:=hd_ (ac_ X0.out bw)
   clear bw HF9 X0
   rw[HSM.out] at h1 g1 ⊢
   have R1:=hd_ h1
   have T1:=hd_ g1
   clear h1 g1
   unfold frV
   have q0:=af_ HR.out 0
   have q1:=af_ HR.out 1
   have q2:=af_ HR.out 2
   simp only[List.getElem?_toArray,List.getElem?_cons_zero,List.getElem?_cons_succ] at q0 q1 q2
   have f0:=ad_ HR.out 0
   have f1:=ad_ HR.out 1
   have f2:=ad_ HR.out 2
   replace R1:=hd_ (R1.out.stored3 HR.out ((zneg q.num)) a1 n1 c1 (.slice b1 m1 d1))
   replace T1:=hd_ (T1.out.stored3 HR.out ((zneg q.num)) a1 n1 c1 (.slice b1 m1 d1))
   replace HB:=hd_ (az_ HB.out (show w.heap.size≤w.heap.size by omega) (.bool (zneg q.num)) (.slice a1 n1 c1) (.slice b1 m1 d1))
   replace HR:=hd_ (bm_ HR.out (.bool (zneg q.num)) (.slice a1 n1 c1) (.slice b1 m1 d1))
   go_wp2
   refine bodyPost_ret (bb_ Tryz.results120 _ _ (w.heap.size) 44 #[.bool (zneg q.num),.slice a1 n1 c1,.slice b1 m1 d1] (0,0) _ rfl HR.out Tryz.underlying44 rfl (by kernel_rfl)) rfl ?_
   exact⟨a1,n1,c1,b1,m1,d1,rfl,R1.out,T1.out,HB.out⟩
theorem jb_{L:List Fx}{k:Nat}(h:k < L.length):fqs (L.take (k+1))=fqs (L.take k) ++ [(L.getD k Fx.zero).q]:=by
 rw[mh_ h];unfold fqs;rw[List.map_append];rfl
theorem vi_{L M:List Fx}{k:Nat}(h:k < L.length)(h':k < M.length)(hq:(L.getD k Fx.zero).q≠(M.getD k Fx.zero).q):fqs L≠fqs M:=fun e=>by
 refine hq ?_
 rw[←di_ h,←di_ h',e]
theorem oh_(a0:OA_)(n0 c0:Nat)(L0:List Fx)(a1:OA_)(n1 c1:Nat)(L1:List Fx)(w:World)(h0:Fxs w a0 n0 c0 L0)(h1:Fxs w a1 n1 c1 L1)(hn:n0≤300)(ht0:thin 2000000000 L0)(ht1:thin 2000000000 L1):Calls Tryz.prog 144 #[.slice a0 n0 c0,.slice a1 n1 c1,.func (.func 40) #[] #[]] w (bi_ (.bool (decide (fqs L0=fqs L1))) w):=by
 have HK0:=hd_ h0
 have HLl0:=hd_ h0.len
 have hbd0:=h0.bound
 have HTh0:=hd_ ht0
 clear h0 ht0
 have HK1:=hd_ h1
 have HLl1:=hd_ h1.len
 have hbd1:=h1.bound
 have HTh1:=hd_ ht1
 clear h1 ht1
 by_cases hnm:n0=n1
 ·subst hnm
  obtain⟨rr,hrr⟩:∃rr,decide (fqs L0=fqs L1)=rr:=⟨_,rfl⟩
  have HRR:=hd_ hrr
  rw[hrr]
  clear hrr
  go_enter Tryz.func144,Tryz.ntmps144
  go_wp2
  go_loopw [17] (fun iv wr=>∃k:Nat,k≤n0∧iv=.int .i64 (k:Int)∧Hid (fqs (L0.take k)=fqs (L1.take k))∧Hid (Below w.heap.size w wr)) (fun iv _=>n0 - (intOf iv).toNat)
  case atStart=>exact⟨0,by omega,rfl,hd_ rfl,hd_ (Below.refl _ _)⟩
  case round=>
   obtain⟨k,hk,rfl,HS,HB⟩:=hrel
   by_cases hlt:k < n0
   ·have HT0:=hd_ (jb_ (show k < L0.length by rw[HLl0.out];exact hlt))
    have HT1:=hd_ (jb_ (show k < L1.length by rw[HLl1.out];exact hlt))
    have HNE:=hd_ (vi_ (show k < L0.length by rw[HLl0.out];exact hlt) (show k < L1.length by rw[HLl1.out];exact hlt))
    obtain⟨bb0,off0,rfl,e00,e10,e20,hok0⟩:=HK0.out.at hlt
    have hth0:=HTh0.out _ (es_ (L:=L0) (k:=k) (by rw[HLl0.out];exact hlt))
    generalize L0.getD k Fx.zero=xk0 at *
    obtain⟨sk0,ak0,nk0,ck0,lak0,bk0,mk0,dk0,lbk0⟩:=xk0
    obtain⟨hA0,hB0⟩:=hok0
    simp only at e00 e10 e20 hA0 hB0 hth0
    obtain⟨hth0,htj0⟩:=hth0
    have HE0:Hid (w.cell? ⟨bb0,off0+k * 3,none⟩=some (.bool sk0)∧w.cell? ⟨bb0,off0+k * 3+1,none⟩=some (.slice ak0 nk0 ck0)∧w.cell? ⟨bb0,off0+k * 3+2,none⟩=some (.slice bk0 mk0 dk0)):=hd_ ⟨e00,e10,e20⟩
    have AK0:=hd_ hA0
    have BK0:=hd_ hB0
    clear hA0 hB0 e00 e10 e20
    obtain⟨bb1,off1,rfl,e01,e11,e21,hok1⟩:=HK1.out.at hlt
    have hth1:=HTh1.out _ (es_ (L:=L1) (k:=k) (by rw[HLl1.out];exact hlt))
    generalize L1.getD k Fx.zero=xk1 at *
    obtain⟨sk1,ak1,nk1,ck1,lak1,bk1,mk1,dk1,lbk1⟩:=xk1
    obtain⟨hA1,hB1⟩:=hok1
    simp only at e01 e11 e21 hA1 hB1 hth1
    obtain⟨hth1,htj1⟩:=hth1
    have HE1:Hid (w.cell? ⟨bb1,off1+k * 3,none⟩=some (.bool sk1)∧w.cell? ⟨bb1,off1+k * 3+1,none⟩=some (.slice ak1 nk1 ck1)∧w.cell? ⟨bb1,off1+k * 3+2,none⟩=some (.slice bk1 mk1 dk1)):=hd_ ⟨e01,e11,e21⟩
    have AK1:=hd_ hA1
    have BK1:=hd_ hB1
    clear hA1 hB1 e01 e11 e21
    have hki:(k:Int) < (n0:Int):=by omega
    have hk0:(0:Int)≤(k:Int):=by omega
    replace HT0:Hid (fqs (L0.take (k+1))=fqs (L0.take k) ++ [qval sk0 (val lak0) (val lbk0)]):=HT0
    replace HT1:Hid (fqs (L1.take (k+1))=fqs (L1.take k) ++ [qval sk1 (val lak1) (val lbk1)]):=HT1
    replace HNE:Hid (qval sk0 (val lak0) (val lbk0)≠qval sk1 (val lak1) (val lbk1)→fqs L0≠fqs L1):=HNE
    obtain⟨e00,e10,e20⟩:=aq_ HE0.out HB.out
    have ba:=aa_ wr (.cells #[.bool sk0,.slice ak0 nk0 ck0,.slice bk0 mk0 dk0] 44)
    have HB1:=hd_ (ab_ HB.out ba)
    obtain⟨e01,e11,e21⟩:=aq_ HE1.out HB1.out
    have bb:=aa_ (wr.alloc (.cells #[.bool sk0,.slice ak0 nk0 ck0,.slice bk0 mk0 dk0] 44)) (.cells #[.bool sk1,.slice ak1 nk1 ck1,.slice bk1 mk1 dk1] 44)
    have HB2:=hd_ (ab_ HB1.out bb)
    obtain⟨x0,x1,x2⟩:=as_ (ac_ (ai_ wr #[.bool sk0,.slice ak0 nk0 ck0,.slice bk0 mk0 dk0] 44) bb)
    have hy:=ai_ (wr.alloc (.cells #[.bool sk0,.slice ak0 nk0 ck0,.slice bk0 mk0 dk0] 44)) #[.bool sk1,.slice ak1 nk1 ck1,.slice bk1 mk1 dk1] 44
    rw[al_] at hy
    obtain⟨y0,y1,y2⟩:=as_ hy
    clear ba bb HB1 hy
    go_wp2_with fail
    refine (fracSaid.same (frV sk0 ak0 nk0 ck0 bk0 mk0 dk0) (frV sk1 ak1 nk1 ck1 bk1 mk1 dk1) (qval sk0 (val lak0) (val lbk0)) (qval sk1 (val lak1) (val lbk1)) _ (Fr.of (AK0.out.later HB2.out) (BK0.out.later HB2.out) (by omega) (by omega) rfl) (Fr.of (AK1.out.later HB2.out) (BK1.out.later HB2.out) (by omega) (by omega) rfl)).mono ?_
    rintro e w4 ⟨rfl,bw⟩
    clear e00 e10 e20 e01 e11 e21 x0 x1 x2 y0 y1 y2
    replace HB:=hd_ (ab_ HB2.out bw)
    clear bw HB2
    by_cases hqq:qval sk0 (val lak0) (val lbk0)=qval sk1 (val lak1) (val lbk1)
    ·have HS9:Hid (fqs (L0.take (k+1))=fqs (L1.take (k+1))):=hd_ (by rw[HT0.out,HT1.out,HS.out,hqq])
     rw[decide_eq_true hqq]
     clear hqq HS HT0 HT1 HNE
     go_wp2
     go_roundw
     case rel=>exact⟨k+1,by omega,by go_num,HS9,HB⟩
     case measure=>simp[intOf];omega
    ·have hrf:rr=false:=by rw[←HRR.out];exact decide_eq_false (HNE.out hqq)
     subst hrf
     rw[decide_eq_false hqq]
     clear hqq HS HT0 HT1 HNE
     go_wp2
     go_ret
     exact⟨rfl,HB.out⟩
   ·obtain rfl:k=n0:=by omega
    have hrt:rr=true:=by
     rw[←HRR.out]
     have h9:=HS.out
     rw[List.take_of_length_le (by rw[HLl0.out];exact Nat.le_refl _),List.take_of_length_le (by rw[HLl1.out];exact Nat.le_refl _)] at h9
     exact decide_eq_true h9
    subst hrt
    go_wp2
    go_ret
    exact⟨rfl,HB.out⟩
 ·have hq:((n0:Int) == (n1:Int))=false:=by simp;omega
  have hne:fqs L0≠fqs L1:=fun e=>hnm (by
   have h9:=congrArg List.length e
   rwa [av_,av_,HLl0.out,HLl1.out] at h9)
  rw[decide_eq_false hne]
  clear hnm hne
  go_enter Tryz.func144,Tryz.ntmps144
  go_wp2
  go_ret
  exact⟨rfl,Below.refl _ _⟩
theorem row_same(a0:OA_)(n0 c0:Nat)(L0:List Fx)(a1:OA_)(n1 c1:Nat)(L1:List Fx)(w:World)(h0:Fxs w a0 n0 c0 L0)(h1:Fxs w a1 n1 c1 L1)(hn:n0≤300)(ht0:thin 2000000000 L0)(ht1:thin 2000000000 L1):Calls Tryz.prog 117 #[.slice a0 n0 c0,.slice a1 n1 c1] w (bi_ (.bool (decide (fqs L0=fqs L1))) w):=by
 have HC:=hd_ (show ∀w':World,Below w.heap.size w w'→Calls Tryz.prog 144 #[.slice a0 n0 c0,.slice a1 n1 c1,.func (.func 40) #[] #[]] w' (bi_ (.bool (decide (fqs L0=fqs L1))) w') from fun w' hw=>oh_ a0 n0 c0 L0 a1 n1 c1 L1 w' (h0.later hw) (h1.later hw) hn ht0 ht1)
 clear h0 h1 ht0 ht1
 go_enter Tryz.func117,Tryz.ntmps117
 go_wp2_with fail
 refine (HC.out _ (Below.refl _ _)).mono ?_
 rintro e w1 ⟨rfl,bw⟩
 go_wp2
 go_ret
 exact⟨rfl,bw⟩
theorem jf_(L:List Fx)(k:Nat):fqs (L.take k)=(fqs L).take k:=by unfold fqs;rw[List.map_take]
theorem e6_(L:List Fx):fqs (L.take (plen (fqs L)))=ah_ (fqs L):=by
 rw[jf_];exact (dq_ (fqs L)).symm
theorem dm_{N:Nat}{L:List Fx}(h:thin N L)(k:Nat):thin N (L.take k):=fun x hx=>h x (List.mem_of_mem_take hx)
theorem b9_{w:World}{a:Option Addr}{n c:Nat}{L:List Fx}(h:Fxs w a n c L):plen (fqs L)≤n:=by
 rw[←h.len,←av_];exact bc_ _
theorem nf_{L:List Fx}{j:Nat}(h:j < L.length):co (fqs L) j=(L.getD j Fx.zero).q:=di_ h
theorem sgn_zero{z:Int}:sgn z=0↔z=0:=by
 unfold sgn
 constructor
 ·intro h
  split at h
  ·assumption
  ·split at h <;> omega
 ·intro h
  rw[if_pos h]
theorem sgn_num{q:Rat}:sgn q.num=0↔q=0:=by
 rw[sgn_zero]
 exact⟨fun h=>Rat.num_eq_zero.1 h,fun h=>by rw[h];rfl⟩
theorem ik_(a:OA_)(n c:Nat)(L:List Fx)(w:World)(h:Fxs w a n c L)(hn:n≤1000)(ht:thin 2097152000 L):Calls Tryz.prog 61 #[.slice a n c] w (bi_ (.int .i64 ((plen (fqs L):Int) - 1)) w):=by
 have hbd:=h.bound
 have HK:=hd_ h
 have HT:=hd_ ht
 have HLl:=hd_ h.len
 obtain⟨D,hD⟩:∃D:Int,((plen (fqs L):Int) - 1)=D:=⟨_,rfl⟩
 rw[hD]
 have HDE:Hid (∀z:Int,-1≤z→(∀j:Nat,z < (j:Int)→co (fqs L) j=0)→(z < 0∨co (fqs L) z.toNat≠0)→z=D):=hd_ (fun z h1 h2 h3=>by
  rw[←hD]
  have h4:plen (fqs L)≤(z+1).toNat:=hg_ fun i hi=>h2 i (by omega)
  rcases h3 with h3 | h3
  ·omega
  ·have:=il_ h3
   omega)
 have HZ0:Hid (∀j:Nat,((n:Int) - 1) < (j:Int)→co (fqs L) j=0):=hd_ (fun j hj=>dk_ (by rw[av_,HLl.out];omega))
 clear h ht hD
 go_enter Tryz.func61,Tryz.ntmps61
 go_wp2
 go_loopw [3] (fun iv wr=>∃z:Int,-1≤z∧z < (n:Int)∧iv=.int .i64 z∧Hid (∀j:Nat,z < (j:Int)→co (fqs L) j=0)∧Hid (Below w.heap.size w wr)) (fun iv _=>(intOf iv+1).toNat)
 case atStart=>exact⟨(n:Int) - 1,by omega,by omega,rfl,HZ0,hd_ (Below.refl _ _)⟩
 case round=>
  clear HZ0
  obtain⟨z,hz1,hz2,rfl,HZ,HB⟩:=hrel
  by_cases hz:0≤z
  ·obtain⟨j,rfl⟩:∃j:Nat,z=(j:Int):=⟨z.toNat,by omega⟩
   have hjn:j < n:=by omega
   obtain⟨b,off,rfl,e0,e1,e2,hok⟩:=(HK.out.later HB.out).at hjn
   have hth:=HT.out _ (es_ (L:=L) (k:=j) (by rw[HLl.out];exact hjn))
   have hco:co (fqs L) j=(L.getD j Fx.zero).q:=nf_ (by rw[HLl.out];exact hjn)
   have hfr:=hok.fr hth.1 hth.2
   generalize L.getD j Fx.zero=x at *
   obtain⟨s,a1,n1,c1,la,b1,m1,d1,lb⟩:=x
   obtain⟨q,hq⟩:∃q,(⟨s,a1,n1,c1,la,b1,m1,d1,lb⟩:Fx).q=q:=⟨_,rfl⟩
   rw[hq] at hco hfr
   have HS:=fracSaid.sign _ q wr hfr
   obtain⟨s0,hs0⟩:∃s0,sgn q.num=s0:=⟨_,rfl⟩
   rw[hs0] at HS
   simp only at e0 e1 e2 hfr HS
   unfold frV at HS
   by_cases hq0:q=0
   ·have h0:s0=0:=by rw[←hs0];exact sgn_num.2 hq0
    subst h0
    have HZ2:Hid (∀i:Nat,(j:Int) - 1 < (i:Int)→co (fqs L) i=0):=hd_ (fun i hi=>by
     by_cases hij:i=j
     ·rw[hij,hco,hq0]
     ·exact HZ.out i (by omega))
    clear hs0 hq0 hq hco hfr hok hth HZ hz1
    go_wp2_with fail
    refine HS.mono ?_
    rintro e w1 ⟨rfl,b1⟩
    have HB1:=hd_ (ab_ HB.out b1)
    clear b1 e0 e1 e2 HS HB
    go_wp2
    go_roundw
    case rel=>exact⟨(j:Int) - 1,by omega,by omega,rfl,HZ2,HB1⟩
    case measure=>simp[intOf]
   ·have h0:(s0 == 0)=false:=by
     have h9:¬s0=0:=fun e=>hq0 (sgn_num.1 (hs0.trans e))
     simpa using h9
    obtain rfl:(j:Int)=D:=HDE.out (j:Int) (by omega) HZ.out (.inr (by rw[Int.toNat_natCast,hco];exact hq0))
    clear hs0 hq0 hq hco hfr hok hth HZ hz1 HDE
    go_wp2_with fail
    refine HS.mono ?_
    rintro e w1 ⟨rfl,b1⟩
    have HB1:=hd_ (ab_ HB.out b1)
    clear b1 e0 e1 e2 HS HB
    go_wp2
    go_ret
    exact⟨rfl,HB1.out⟩
  ·obtain rfl:z=D:=HDE.out z hz1 HZ.out (.inl (by omega))
   clear HDE HZ
   go_wp2
   go_ret
   exact⟨rfl,HB.out⟩
theorem d8_(a:OA_)(n c:Nat)(L:List Fx)(w:World)(h:Fxs w a n c L)(hn:n≤1000)(ht:thin 2097152000 L):Calls Tryz.prog 109 #[.slice a n c] w (bi_ (.slice a (plen (fqs L)) c) w):=by
 have hbd:=h.bound
 have hk:=b9_ h
 have hnil:=h.2.2.2.1
 have HD:=hd_ (ik_ a n c L w h hn ht)
 obtain⟨k,hke⟩:∃k,plen (fqs L)=k:=⟨_,rfl⟩
 rw[hke] at hk HD ⊢
 have hw:IntKind.i64.wrap (k:Int)=(k:Int):=by rw[IntKind.wrap_i64];omega
 have hkc:(k:Int)≤(c:Int):=by omega
 clear h ht hke
 have hkk:(k:Int) - 1+1=(k:Int):=by omega
 go_enter Tryz.func109,Tryz.ntmps109
 go_wp2_with fail
 refine HD.out.mono ?_
 rintro e w1 ⟨rfl,b1⟩
 have HB1:=hd_ b1
 clear b1 HD
 cases a with
 | none=>
   have hc0:c=0:=hnil rfl
   subst hc0
   obtain rfl:k=0:=by omega
   clear hnil
   go_wp2
   go_ret
   exact⟨rfl,HB1.out⟩
 | some ad=>
   clear hnil
   go_wp2
   go_ret
   exact⟨rfl,HB1.out⟩
theorem is_(a:OA_)(n c:Nat)(L:List Fx)(w:World)(h:Fxs w a n c L)(hn:n≤300)(ht:thin 2097152000 L):Calls Tryz.prog 95 #[.slice a n c] w (LstRow 44 (ah_ (fqs L)) w):=by
 have hbd:=h.bound
 have hk:=b9_ h
 obtain⟨q,hq⟩:∃q:Rat,((1:Int):Rat)=q:=⟨_,rfl⟩
 have hq1:q=1:=by rw[←hq];rfl
 have hql:qlen q≤2:=by rw[←hq];exact br_ (by decide)
 have HO:∀w':World,Calls Tryz.prog 47 #[.int .i64 1] w' (LstQ q w'):=fun w'=>hq▸fz_ 1 w' (by decide)
 have HU:∀w':World,Below w.heap.size w w'→Calls Tryz.prog 109 #[.slice a n c] w' (bi_ (.slice a (plen (fqs L)) c) w'):=fun w' hb=>d8_ a n c L w' (h.later hb) (by omega) ht
 have HS:∀(w':World) (v:Value),Below w.heap.size w w'→Fr w' v q 2097152000→Calls Tryz.prog 110 #[v,.slice a (plen (fqs L)) c] w' (LstRow 44 (ah_ (fqs L)) w'):=fun w' v hb hv=>by
  have h9:=i7_ v q a (plen (fqs L)) c (L.take (plen (fqs L))) w' hv ((h.later hb).take hk) (by omega) (dm_ ht _)
  rw[e6_,hq1] at h9
  rwa [show ag_ 1 (ah_ (fqs L))=ah_ (fqs L) from by unfold ag_;rw[show (fun x:Rat=>1 * x)=id from funext fun x=>Rat.one_mul x,List.map_id]] at h9
 generalize ah_ (fqs L)=T at *
 generalize plen (fqs L)=k at *
 have HL:=hd_ hql
 clear h ht hq hq1 hql
 go_enter Tryz.func95,Tryz.ntmps95
 go_wp2_with fail
 refine (HO _).mono ?_
 rintro e w1 ⟨a1,n1,c1,b1,m1,d1,rfl,h1,g1,bw⟩
 have ln:n1≤2097152000:=Nat.le_trans (Nat.le_of_eq h1.len.symm) (Nat.le_trans (a8_ _) (Nat.le_trans HL.out (by decide)))
 have lm:m1≤2097152000:=Nat.le_trans (Nat.le_of_eq g1.len.symm) (Nat.le_trans (a7_ _) (Nat.le_trans HL.out (by decide)))
 have HB:=hd_ bw
 have A1:=hd_ h1
 have D1:=hd_ g1
 clear bw h1 g1 HO
 go_wp2_with fail
 refine (HU _ HB.out).mono ?_
 rintro e w2 ⟨rfl,bw⟩
 replace HB:=bt_ HB bw
 replace A1:=A1.l_ bw
 replace D1:=D1.l_ bw
 clear bw HU
 go_wp2_with fail
 refine (HS _ _ HB.out (Fr.right A1.out D1.out ln lm)).mono ?_
 rintro e w3 ⟨v,rfl,h3,bw⟩
 have R3:=hd_ (h0_ h3 HB.out.size)
 replace HB:=bt_ HB bw
 clear bw h3 HS A1 D1
 go_wp2
 go_ret
 exact⟨v,rfl,R3.out,HB.out⟩
theorem mo_(a:OA_)(n c:Nat)(L:List Fx)(w:World)(h:Fxs w a n c L)(hn:n≤300)(ht:thin 2097152000 L):Calls Tryz.prog 95 #[.slice a n c] w (b8_ (ah_ (fqs L)) w):=(is_ a n c L w h hn ht).mono fun _ _ h9=>h9.out
theorem poly_same(a:OA_)(n c:Nat)(L:List Fx)(b:OA_)(m d:Nat)(M:List Fx)(w:World)(h:Fxs w a n c L)(k:Fxs w b m d M)(hn:n≤300)(hm:m≤300)(ht:thin 2000000000 L)(hu:thin 2000000000 M):Calls Tryz.prog 74 #[.slice a n c,.slice b m d] w (bi_ (.bool (decide (ah_ (fqs L)=ah_ (fqs M)))) w):=by
 have hbd:=h.bound
 have hbd2:=k.bound
 have hk1:=b9_ h
 have hk2:=b9_ k
 have HU1:∀w':World,Below w.heap.size w w'→Calls Tryz.prog 109 #[.slice a n c] w' (bi_ (.slice a (plen (fqs L)) c) w'):=fun w' hb=>d8_ a n c L w' (h.later hb) (by omega) (ht.mono (by decide))
 have HU2:∀w':World,Below w.heap.size w w'→Calls Tryz.prog 109 #[.slice b m d] w' (bi_ (.slice b (plen (fqs M)) d) w'):=fun w' hb=>d8_ b m d M w' (k.later hb) (by omega) (hu.mono (by decide))
 have HS:∀(w':World),Below w.heap.size w w'→Calls Tryz.prog 117 #[.slice a (plen (fqs L)) c,.slice b (plen (fqs M)) d] w' (bi_ (.bool (decide (ah_ (fqs L)=ah_ (fqs M)))) w'):=fun w' hb=>by
  have h9:=row_same a (plen (fqs L)) c (L.take (plen (fqs L))) b (plen (fqs M)) d (M.take (plen (fqs M))) w' ((h.later hb).take hk1) ((k.later hb).take hk2) (by omega) (dm_ ht _) (dm_ hu _)
  rwa [e6_,e6_] at h9
 generalize decide (ah_ (fqs L)=ah_ (fqs M))=R at *
 generalize plen (fqs L)=k1 at *
 generalize plen (fqs M)=k2 at *
 have HB:=hd_ (Below.refl w.heap.size w)
 clear h k ht hu
 go_enter Tryz.func74,Tryz.ntmps74
 go_wp2_with fail
 refine (HU1 _ HB.out).mono ?_
 rintro e w1 ⟨rfl,bw⟩
 replace HB:=bt_ HB bw
 clear bw HU1
 go_wp2_with fail
 refine (HU2 _ HB.out).mono ?_
 rintro e w2 ⟨rfl,bw⟩
 replace HB:=bt_ HB bw
 clear bw HU2
 go_wp2_with fail
 refine (HS _ HB.out).mono ?_
 rintro e w3 ⟨rfl,bw⟩
 replace HB:=bt_ HB bw
 clear bw HS
 go_wp2
 go_ret
 exact⟨rfl,HB.out⟩
theorem Rw.part{w:World}{a:Option Addr}{n cap:Nat}{qs:List Rat}(h:Rw w a n cap qs){k:Nat}(hk:k≤n):Rw w a k cap (qs.take k):=by
 obtain⟨L,h1,h2,h3⟩:=h
 exact⟨L.take k,h1.take hk,by rw[List.map_take,h2],fun x hx=>h3 x (List.mem_of_mem_take hx)⟩
theorem Rw.used{w:World}{a:Option Addr}{n cap:Nat}{qs:List Rat}(h:Rw w a n cap qs):Rw w a (plen qs) cap (ah_ qs):=by
 have h1:=h.part (k:=plen qs) (by rw[←h.len];exact bc_ qs)
 rwa [show qs.take (plen qs)=ah_ qs from (dq_ qs).symm] at h1
theorem hq_(a:OA_)(n c:Nat)(qs:LR_)(w:World)(h:Rw w a n c qs)(hn:n≤1000)(hq:∀q∈qs,qlen q≤2097152000):Calls Tryz.prog 109 #[.slice a n c] w (fun e w'=>e=.returned (.slice a (plen qs) c)∧Rw w' a (plen qs) c (ah_ qs)∧Below w.heap.size w w'):=by
 obtain⟨L,h1,h2,h3⟩:=h.thin hq
 have h4:=d8_ a n c L w h1 hn h3
 rw[h2] at h4
 exact h4.mono fun e w' h9=>⟨h9.1,h.used.later h9.2,h9.2⟩
theorem re_(a:OA_)(n c:Nat)(L:List Fx)(w:World)(h:Fxs w a n c L)(hn:n≤1000)(ht:thin 2097152000 L):Calls Tryz.prog 109 #[.slice a n c] w (fun e w'=>e=.returned (.slice a (plen (fqs L)) c)∧Fxs w' a (plen (fqs L)) c (L.take (plen (fqs L)))∧Below w.heap.size w w'):=
 (d8_ a n c L w h hn ht).mono fun _ _ h9=>⟨h9.1,(h.take (b9_ h)).later h9.2,h9.2⟩
theorem u5_(v:Value)(z:Rat)(a:OA_)(n c:Nat)(L:List Fx)(w:World)(hv:Fr w v z 900000000)(h:Fxs w a n c L)(hn:n≤300)(ht:thin 900000000 L):Calls Tryz.prog 64 #[v,.slice a n c] w (b8_ (ah_ (ag_ z (fqs L))) w):=by
 have hbd:=h.bound
 have hk:=b9_ h
 have hzl:qlen z≤900000001:=hv.len
 have hT9:∀q∈ag_ z (ah_ (fqs L)),qlen q≤2097152000:=fun q hq=>Nat.le_trans (ex_ (A:=900000001) hzl (fun x hx=>ht.qs h.oks x (gt_ hx)) q hq) (by decide)
 obtain⟨vs,va,vn,vc,vla,vb,vm,vd,vlb,rfl,hv1,hv2,hvn,hvm,hvq⟩:=hv
 have HVQ:=hd_ hvq
 have HU:∀w':World,Fxs w' a n c L→Calls Tryz.prog 109 #[.slice a n c] w' (fun e w''=>e=.returned (.slice a (plen (fqs L)) c)∧Fxs w'' a (plen (fqs L)) c (L.take (plen (fqs L)))∧Below w'.heap.size w' w''):=fun w' h9=>re_ a n c L w' h9 (by omega) (ht.mono (by decide))
 have hT:∃T,ag_ z (ah_ (fqs L))=T:=⟨_,rfl⟩
 have HS:∀w':World,Fxs w' a (plen (fqs L)) c (L.take (plen (fqs L)))→Wd w' va vn vc vla→Wd w' vb vm vd vlb→Calls Tryz.prog 110 #[.agg #[.bool vs,.slice va vn vc,.slice vb vm vd],.slice a (plen (fqs L)) c] w' (b8_ (ag_ z (ah_ (fqs L))) w'):=fun w' h9 h8 h7=>by
  have h6:=hp_ (frV vs va vn vc vb vm vd) z a (plen (fqs L)) c (L.take (plen (fqs L))) w' (Fr.of h8 h7 (by omega) (by omega) HVQ.out) h9 (by omega) (dm_ (ht.mono (by decide)) _)
  rwa [e6_] at h6
 have HNL:Hid ((ag_ z (ah_ (fqs L))).length≤1000):=hd_ (by rw[be_];have:(ah_ (fqs L)).length=plen (fqs L):=rfl;omega)
 have HPN:Hid (ah_ (ag_ z (fqs L))=ah_ (ag_ z (ah_ (fqs L)))):=hd_ (bu_ (b0_ z (ar_ _).symm))
 rw[HPN.out]
 clear HPN
 obtain⟨T,hT⟩:=hT
 rw[hT] at HNL hT9 ⊢
 simp only[hT] at HS
 have HUR:∀(w':World) (a':OA_) (n' c':Nat),Rw w' a' n' c' T→Calls Tryz.prog 109 #[.slice a' n' c'] w' (fun e w''=>e=.returned (.slice a' (plen T) c')∧Rw w'' a' (plen T) c' (ah_ T)∧Below w'.heap.size w' w''):=fun w' a' n' c' h9=>hq_ a' n' c' T w' h9 (by rw[←h9.len];exact HNL.out) hT9
 obtain⟨k,hke⟩:∃k,plen (fqs L)=k:=⟨_,rfl⟩
 obtain⟨M,hM⟩:∃M,L.take k=M:=⟨_,rfl⟩
 rw[hke] at hk
 simp only[hke,hM] at HU HS
 obtain⟨k2,hk2⟩:∃k,plen T=k:=⟨_,rfl⟩
 obtain⟨U,hU⟩:∃U,ah_ T=U:=⟨_,rfl⟩
 simp only[hk2,hU] at HUR ⊢
 have HB:=hd_ (aa_ w (.cells #[.bool vs,.slice va vn vc,.slice vb vm vd] 44))
 have X0:Hid ((w.alloc (.cells #[.bool vs,.slice va vn vc,.slice vb vm vd] 44)).heap[w.heap.size]? = some (.cells #[.bool vs,.slice va vn vc,.slice vb vm vd] 44 (0,0))):=hd_ (ai_ w _ _)
 have HK:=hd_ (h.later HB.out)
 have V1:=hd_ (hv1.later HB.out)
 have V2:=hd_ (hv2.later HB.out)
 clear h ht hv1 hv2 hvq hke hM hT hk2 hU hT9 hzl HVQ HNL hvn hvm
 go_enter Tryz.func64,Tryz.ntmps64
 unfold frV
 go_wp2
 replace HB:=hd_ (ab_ HB.out ((Below.refl _ _).drew:Below (w.alloc (.cells #[.bool vs,.slice va vn vc,.slice vb vm vd] 44)).heap.size (w.alloc (.cells #[.bool vs,.slice va vn vc,.slice vb vm vd] 44)) (w.alloc (.cells #[.bool vs,.slice va vn vc,.slice vb vm vd] 44)).drew))
 replace X0:Hid ((w.alloc (.cells #[.bool vs,.slice va vn vc,.slice vb vm vd] 44)).drew.heap[w.heap.size]? = _):=hd_ X0.out
 replace HK:=hd_ (HK.out.later ((Below.refl _ _).drew:Below (w.alloc (.cells #[.bool vs,.slice va vn vc,.slice vb vm vd] 44)).heap.size (w.alloc (.cells #[.bool vs,.slice va vn vc,.slice vb vm vd] 44)) (w.alloc (.cells #[.bool vs,.slice va vn vc,.slice vb vm vd] 44)).drew))
 replace V1:=hd_ (V1.out.later ((Below.refl _ _).drew:Below (w.alloc (.cells #[.bool vs,.slice va vn vc,.slice vb vm vd] 44)).heap.size (w.alloc (.cells #[.bool vs,.slice va vn vc,.slice vb vm vd] 44)) (w.alloc (.cells #[.bool vs,.slice va vn vc,.slice vb vm vd] 44)).drew))
 replace V2:=hd_ (V2.out.later ((Below.refl _ _).drew:Below (w.alloc (.cells #[.bool vs,.slice va vn vc,.slice vb vm vd] 44)).heap.size (w.alloc (.cells #[.bool vs,.slice va vn vc,.slice vb vm vd] 44)) (w.alloc (.cells #[.bool vs,.slice va vn vc,.slice vb vm vd] 44)).drew))
 have pSn:=as_ X0.out
 go_region_held3 (fun w'=>w'.cell? ⟨w.heap.size,0,none⟩=some (.bool vs)∧w'.cell? ⟨w.heap.size,1,none⟩=some (.slice va vn vc)∧w'.cell? ⟨w.heap.size,2,none⟩=some (.slice vb vm vd)) (exact pSn)
  (first
  | (go_at_call 109;(first
    | (have pm2:=pM2;refine (HUR _ a1 n1 c1 R1.out).mono ?_;rintro e wp3 ⟨rfl,h,b⟩;replace HB:=bt_ HB b;replace X0:=bl_ X0 b;replace HK:=HK.l_ b;replace V1:=V1.l_ b;replace V2:=V2.l_ b;clear R1;have R2:=hd_ h;clear h;clear b;clear pSn;have pSn:=as_ X0.out;clear pM2 pm2;have pM3:=True.intro)
    | (refine (HU _ HK.out).mono ?_;rintro e wp1 ⟨rfl,h,b⟩;replace HB:=bt_ HB b;replace X0:=bl_ X0 b;replace HK:=HK.l_ b;replace V1:=V1.l_ b;replace V2:=V2.l_ b;have M1:=hd_ h;clear h;clear b;clear pSn;have pSn:=as_ X0.out;have pM1:=True.intro)))
  | (go_at_call 110;(first
    | (have pm1:=pM1;refine (HS _ M1.out V1.out V2.out).mono ?_;rintro e wp2 ⟨a1,n1,c1,rfl,h,b⟩;replace HB:=bt_ HB b;replace X0:=bl_ X0 b;replace HK:=HK.l_ b;replace V1:=V1.l_ b;replace V2:=V2.l_ b;clear M1;have R1:=hd_ h;clear h;clear b;clear pSn;have pSn:=as_ X0.out;clear pM1 pm1;have pM2:=True.intro))))
 all_goals (
  go_wp2
  go_ret
  exact⟨a1,k2,c1,rfl,R2.out,HB.out⟩)

theorem poly_eval(a:OA_)(n c:Nat)(L:List Fx)(v:Value)(x:Rat)(N X:Nat)(w:World)(h:Fxs w a n c L)(hv:Fr w v x X)(hn:n≤100)(ht:thin N L)(hb:(n+1) * ((n+1) * (X+8)+N+8)≤1900000000):Calls Tryz.prog 112 #[.slice a n c,v] w (LstQ (ba_ x (fqs L)) w):=by
 have hbd:=h.bound
 have hk:=b9_ h
 have hlx:qlen x≤X+1:=hv.len
 have hN9:N≤1900000000:=Nat.le_trans (Nat.le_trans (by omega) (Nat.le_mul_of_pos_left _ (by omega):(n+1) * (X+8)+N+8≤(n+1) * ((n+1) * (X+8)+N+8))) hb
 have hX9:X+8≤1900000000:=Nat.le_trans (Nat.le_trans (Nat.le_mul_of_pos_left _ (by omega):X+8≤(n+1) * (X+8)) (Nat.le_trans (by omega) (Nat.le_mul_of_pos_left _ (by omega):(n+1) * (X+8)+N+8≤(n+1) * ((n+1) * (X+8)+N+8)))) hb
 obtain⟨C,hC⟩:∃C,X+N+6=C:=⟨_,rfl⟩
 have hLC:∀k,k≤n→2+k * C+X+3≤1900000000:=fun k hk=>by
  have h1:k * C≤n * C:=Nat.mul_le_mul_right C hk
  have h2:n * C≤n * ((n+1) * (X+8)+N+8):=Nat.mul_le_mul_left n (by
   have:X+8≤(n+1) * (X+8):=Nat.le_mul_of_pos_left _ (by omega)
   omega)
  have h3:X+8≤(n+1) * (X+8):=Nat.le_mul_of_pos_left _ (by omega)
  have h4:(n+1) * ((n+1) * (X+8)+N+8)=n * ((n+1) * (X+8)+N+8)+1 * ((n+1) * (X+8)+N+8):=Nat.add_mul n 1 _
  omega
 have HLC:=hd_ hLC
 obtain⟨T,hT⟩:∃T,ah_ (fqs L)=T:=⟨_,rfl⟩
 have HTL:Hid (T.length=plen (fqs L)):=hd_ (by rw[←hT];rfl)
 have HTV:Hid (∀j,j < plen (fqs L)→T.getD j 0=(L.getD j Fx.zero).q):=hd_ (fun j hj=>by
  have h1:co T j=co (fqs L) j:=by rw[←hT];exact ar_ _ j
  rw[nf_ (by rw[h.len];omega)] at h1
  exact h1)
 obtain⟨V,hV⟩:∃V,ba_ x (fqs L)=V:=⟨_,rfl⟩
 have HVE:Hid (ba_ x T=V):=hd_ (by rw[←hV,←hT];exact ak_ x (ar_ _))
 rw[hV]
 have HD:=hd_ (fun w' (hb:Fxs w' a n c L)=>ik_ a n c L w' hb (by omega) (ht.mono (by omega)))
 obtain⟨k,hke⟩:∃k,plen (fqs L)=k:=⟨_,rfl⟩
 simp only[hke] at HD hk HTL HTV
 obtain⟨vs,va,vn,vc,vla,vb,vm,vd,vlb,rfl,hv1,hv2,hvn,hvm,hvq⟩:=hv
 have HVQ:=hd_ hvq
 have HTh:=hd_ ht
 have HLl:=hd_ h.len
 have HLX:=hd_ hlx
 obtain⟨z0,hz0⟩:∃z:Rat,((0:Int):Rat)=z:=⟨_,rfl⟩
 have HI0:∀w':World,Calls Tryz.prog 47 #[.int .i64 0] w' (LstQ z0 w'):=fun w'=>hz0▸fz_ 0 w' c3_
 have HS0:Hid (z0=0):=hd_ (by rw[←hz0];rfl)
 have HB:=hd_ (ab_ (aa_ w (.cells #[.bool vs,.slice va vn vc,.slice vb vm vd] 44)) (aa_ _ (.cells #[.bool false,.slice none 0 0,.slice none 0 0] 44)))
 have X0:Hid (((w.alloc (.cells #[.bool vs,.slice va vn vc,.slice vb vm vd] 44)).alloc (.cells #[.bool false,.slice none 0 0,.slice none 0 0] 44)).heap[w.heap.size]? = some (.cells #[.bool vs,.slice va vn vc,.slice vb vm vd] 44 (0,0))):=hd_ (ac_ (ai_ w #[.bool vs,.slice va vn vc,.slice vb vm vd] 44) (aa_ _ (.cells #[.bool false,.slice none 0 0,.slice none 0 0] 44)))
 have R0:Hid (((w.alloc (.cells #[.bool vs,.slice va vn vc,.slice vb vm vd] 44)).alloc (.cells #[.bool false,.slice none 0 0,.slice none 0 0] 44)).heap[w.heap.size+1]? = some (.cells #[.bool false,.slice none 0 0,.slice none 0 0] 44 (0,0))):=hd_ (by have h9:=ai_ (w.alloc (.cells #[.bool vs,.slice va vn vc,.slice vb vm vd] 44)) #[.bool false,.slice none 0 0,.slice none 0 0] 44;rwa [al_] at h9)
 have HK:=hd_ h
 have W1:=hd_ hv1
 have W2:=hd_ hv2
 clear h ht hv1 hv2 hvq hT hV hz0 hb hlx hke
 go_enter Tryz.func112,Tryz.ntmps112
 unfold frV
 go_wp2_with fail
 refine (HI0 _).mono ?_
 rintro e w1 ⟨a1,n1,c1,b1,m1,d1,rfl,h1,g1,bw⟩
 replace HB:=bt_ HB bw
 replace X0:=bl_ X0 bw
 replace R0:=bl_ R0 bw
 have hsz1:w.heap.size+1 < w1.heap.size:=(Array.getElem?_eq_some_iff.1 R0.out).1
 unfold frV
 have ba:=aa_ w1 (.cells #[.bool (zneg z0.num),.slice a1 n1 c1,.slice b1 m1 d1] 44)
 have S0:=hd_ (ai_ w1 #[.bool (zneg z0.num),.slice a1 n1 c1,.slice b1 m1 d1] 44)
 have SA:=h1.l_ ba
 have SD:=g1.l_ ba
 replace HB:=bt_ HB ba
 replace X0:=bl_ X0 ba
 replace R0:=bl_ R0 ba
 clear bw ba h1 g1 HI0
 go_wp2_with fail
 refine (HD.out _ (HK.out.later HB.out)).mono ?_
 rintro e w2 ⟨rfl,bw⟩
 replace HB:=bt_ HB bw
 replace X0:=bl_ X0 bw
 replace R0:=bl_ R0 bw
 replace S0:=bl_ S0 bw
 replace SA:=SA.l_ bw
 replace SD:=SD.l_ bw
 clear bw HD
 have HQ0:Hid (qlen z0≤2+(k - k) * C):=hd_ (by rw[HS0.out,cy_];omega)
 have HE0:Hid (z0=ba_ x (T.drop k)):=hd_ (by rw[List.drop_eq_nil_of_le (by rw[HTL.out];exact Nat.le_refl _),HS0.out];rfl)
 go_wp2
 go_loopw [6] (fun iv wr=>∃(j:Nat) (s:Rat) (a1:OA_) (n1 c1:Nat) (b1:OA_) (m1 d1:Nat),j≤k∧iv=.int .i64 ((j:Int) - 1)∧Hid (s=ba_ x (T.drop j))∧Hid (qlen s≤2+(k - j) * C)∧
  Hid (wr.heap[w1.heap.size]? = some (.cells #[.bool (zneg s.num),.slice a1 n1 c1,.slice b1 m1 d1] 44 (0,0)))∧Hid (Wd wr a1 n1 c1 (dg s.num.natAbs))∧Hid (Wd wr b1 m1 d1 (dg s.den))∧
  Hid (wr.heap[w.heap.size]? = some (.cells #[.bool vs,.slice va vn vc,.slice vb vm vd] 44 (0,0)))∧Hid (wr.heap[w.heap.size+1]? = some (.cells #[.bool false,.slice none 0 0,.slice none 0 0] 44 (0,0)))∧Hid (Below w.heap.size w wr)) (fun iv _=>(intOf iv+1).toNat)
 case atStart=>exact⟨k,z0,a1,n1,c1,b1,m1,d1,Nat.le_refl _,rfl,HE0,HQ0,S0,SA,SD,X0,R0,HB⟩
 case round=>
  clear S0 SA SD X0 R0 HB HS0 HE0 HQ0
  obtain⟨j,s,a1,n1,c1,b1,m1,d1,hj,rfl,HE,HQ,S0,SA,SD,X0,R0,HB⟩:=hrel
  by_cases hlt:0 < j
  ·obtain⟨i,rfl⟩:∃i,j=i+1:=⟨j - 1,by omega⟩
   have hin:i < n:=by omega
   obtain⟨bb,off,rfl,e0,e1,e2,hok⟩:=HK.out.at hin
   have hth:=HTh.out _ (es_ (L:=L) (k:=i) (by rw[HLl.out];exact hin))
   have htv:=HTV.out i (by omega)
   have hfr:=hok.fr hth.1 hth.2
   have hcl:=hfr.len
   have hdr:T.drop i=T.getD i 0 :: T.drop (i+1):=by
    have hk':i < T.length:=by rw[HTL.out];omega
    rw[List.drop_eq_getElem_cons hk',List.getD_eq_getElem?_getD,List.getElem?_eq_getElem hk'];rfl
   rw[htv] at hdr
   generalize L.getD i Fx.zero=y at *
   obtain⟨ys,ya,yn,yc,yla,yb,ym,yd,ylb⟩:=y
   obtain⟨q,hq⟩:∃q,(⟨ys,ya,yn,yc,yla,yb,ym,yd,ylb⟩:Fx).q=q:=⟨_,rfl⟩
   have hyq:qval ys (val yla) (val ylb)=q:=hq
   rw[hq] at hdr hcl
   obtain⟨hA,hD⟩:=hok
   simp only at e0 e1 e2 hA hD hth
   obtain⟨s1,hs1⟩:∃z,s * x=z:=⟨_,rfl⟩
   obtain⟨s2,hs2⟩:∃z,s1+q=z:=⟨_,rfl⟩
   have hls:=HQ.out
   have hl1:=HLC.out (k - (i+1)) (by omega)
   have hl2:=HLC.out (k - i) (by omega)
   have hlx:=HLX.out
   have hms:=cu_ s x
   have has:=gz_ s1 q
   have hki:k - i=k - (i+1)+1:=by omega
   rw[hs1] at hms
   rw[hs2] at has
   have hq2:qlen s2≤2+(k - i) * C:=by
    rw[hki,Nat.add_mul,Nat.one_mul];omega
   have HQ2:=hd_ hq2
   have HE2:Hid (s2=ba_ x (T.drop i)):=hd_ (by
    rw[hdr,ba_,←HE.out,←hs2,←hs1];grind)
   have E1:=hd_ hs1
   have E2:=hd_ hs2
   have L1:Hid (qlen s1≤1900000000):=hd_ (by omega)
   have ls1:n1≤1900000000:=by rw[←SA.out.len];exact Nat.le_trans (a8_ _) (by omega)
   have ls2:m1≤1900000000:=by rw[←SD.out.len];exact Nat.le_trans (a7_ _) (by omega)
   have QA:=hd_ hA
   have QD:=hd_ hD
   have HEE:=hd_ (show w.cell? ⟨bb,off+i * 3,none⟩=some (.bool ys)∧w.cell? ⟨bb,off+i * 3+1,none⟩=some (.slice ya yn yc)∧w.cell? ⟨bb,off+i * 3+2,none⟩=some (.slice yb ym yd) from ⟨e0,e1,e2⟩)
   have YQ:=hd_ hyq
   obtain⟨hyn,hym⟩:=hth
   have hji:((i+1:Nat):Int) - 1=(i:Int):=by omega
   have hii:(i:Int) < (n:Int):=by omega
   have hi0:(0:Int)≤(i:Int):=by omega
   rw[hji]
   clear e0 e1 e2 hA hD hq hyq hdr hs1 hs2 hls hl1 hl2 hlx hms has hki hq2 HE HQ hcl hfr htv hji
   obtain⟨e0,e1,e2⟩:=aq_ HEE.out HB.out;obtain⟨x0,x1,x2⟩:=as_ S0.out;obtain⟨y0,y1,y2⟩:=as_ X0.out
   go_wp2
   have b0:Below wr.heap.size wr wr.drew:=(Below.refl _ _).drew
   replace HB:=bt_ HB b0
   replace S0:=bl_ S0 b0
   replace X0:=bl_ X0 b0
   replace R0:=bl_ R0 b0
   replace SA:=SA.l_ b0
   replace SD:=SD.l_ b0
   clear e0 e1 e2 x0 x1 x2 y0 y1 y2 b0
   obtain⟨e0,e1,e2⟩:=aq_ HEE.out HB.out;obtain⟨x0,x1,x2⟩:=as_ S0.out;obtain⟨y0,y1,y2⟩:=as_ X0.out
   go_region_law (first
    | (go_simp;go_at_call 43;refine (fracSaid.mul _ _ s x _ (Fr.right SA.out SD.out (by omega) (by omega)) (Fr.of (W1.out.later HB.out) (W2.out.later HB.out) (by omega) (by omega) HVQ.out)).mono ?_;rintro e w4 ⟨a4,n4,c4,b4,m4,d4,rfl,h4,g4,bw⟩;rw[E1.out] at h4 g4 ⊢;clear e0 e1 e2 x0 x1 x2 y0 y1 y2;replace HB:=bt_ HB bw;replace S0:=bl_ S0 bw;replace X0:=bl_ X0 bw;replace R0:=bl_ R0 bw;have A4:=hd_ h4;have D4:=hd_ g4;have hn4:n4≤1900000000:=Nat.le_trans (Nat.le_of_eq h4.len.symm) (Nat.le_trans (a8_ _) L1.out);have hm4:m4≤1900000000:=Nat.le_trans (Nat.le_of_eq g4.len.symm) (Nat.le_trans (a7_ _) L1.out);clear bw h4 g4;unfold frV;obtain⟨e0,e1,e2⟩:=aq_ HEE.out HB.out;obtain⟨x0,x1,x2⟩:=as_ S0.out;obtain⟨y0,y1,y2⟩:=as_ X0.out)
    | (go_simp;go_at_call 41;refine (fracSaid.add _ _ s1 q _ (Fr.right A4.out D4.out (by omega) (by omega)) (Fr.of (QA.out.later HB.out) (QD.out.later HB.out) (by omega) (by omega) YQ.out)).mono ?_;rintro e w5 ⟨a5,n5,c5,b5,m5,d5,rfl,h5,g5,bw⟩;rw[E2.out] at h5 g5 ⊢;clear e0 e1 e2 x0 x1 x2 y0 y1 y2;replace HB:=bt_ HB bw;replace S0:=bl_ S0 bw;replace X0:=bl_ X0 bw;replace R0:=bl_ R0 bw;have A5:=hd_ h5;have D5:=hd_ g5;clear bw h5 g5 A4 D4;unfold frV;obtain⟨x0,x1,x2⟩:=as_ S0.out;have f0:=ad_ S0.out 0;have f1:=ad_ S0.out 1;have f2:=ad_ S0.out 2))
   all_goals (
    have S9:=hd_ (bm_ S0.out (.bool (zneg s2.num)) (.slice a5 n5 c5) (.slice b5 m5 d5))
    have SA9:=hd_ (A5.out.stored3 S0.out (zneg s2.num) a5 n5 c5 (.slice b5 m5 d5))
    have SD9:=hd_ (D5.out.stored3 S0.out (zneg s2.num) a5 n5 c5 (.slice b5 m5 d5))
    have X9:=hd_ (bw_ X0.out (show w.heap.size≠w1.heap.size by omega) (.bool (zneg s2.num)) (.slice a5 n5 c5) (.slice b5 m5 d5))
    have R9:=hd_ (bw_ R0.out (show w.heap.size+1≠w1.heap.size by omega) (.bool (zneg s2.num)) (.slice a5 n5 c5) (.slice b5 m5 d5))
    have B9:=hd_ (az_ HB.out (show w.heap.size≤w1.heap.size by omega) (.bool (zneg s2.num)) (.slice a5 n5 c5) (.slice b5 m5 d5))
    clear S0 X0 R0 HB A5 D5 SA SD
    go_wp2
    go_roundw
    case rel=>exact⟨i,s2,a5,n5,c5,b5,m5,d5,by omega,rfl,HE2,HQ2,S9,SA9,SD9,X9,R9,B9⟩
    case measure=>simp[intOf])
  ·have hj0:j=0:=by omega
   subst hj0
   have HFV:Hid (s=V):=hd_ (by rw[HE.out,List.drop_zero];exact HVE.out)
   obtain rfl:s=V:=HFV.out
   obtain⟨x0,x1,x2⟩:=as_ S0.out
   obtain⟨y0,y1,y2⟩:=as_ R0.out
   have f0:=ad_ R0.out 0
   have f1:=ad_ R0.out 1
   have f2:=ad_ R0.out 2
   have R9:=hd_ (bm_ R0.out (.bool (zneg s.num)) (.slice a1 n1 c1) (.slice b1 m1 d1))
   have S9:=hd_ (SA.out.stored3 R0.out (zneg s.num) a1 n1 c1 (.slice b1 m1 d1))
   have T9:=hd_ (SD.out.stored3 R0.out (zneg s.num) a1 n1 c1 (.slice b1 m1 d1))
   have G9:=hd_ (az_ HB.out (show w.heap.size≤w.heap.size+1 by omega) (.bool (zneg s.num)) (.slice a1 n1 c1) (.slice b1 m1 d1))
   clear S0 SA SD X0 R0 HB HE HQ HFV HVE
   go_wp2
   refine bodyPost_ret (results_cell_row Tryz.results112 _ _ (w.heap.size+1) 44 #[.bool (zneg s.num),.slice a1 n1 c1,.slice b1 m1 d1] (0,0) _ rfl R9.out Tryz.underlying44 rfl (by kernel_rfl)) rfl ?_
   exact⟨a1,n1,c1,b1,m1,d1,rfl,S9.out,T9.out,G9.out⟩
def Rwss (w:World) (a:OA_) (n cap:Nat) (Q:List (List Rat)):Prop:=∃LL,Fxss w a n cap LL∧LL.map fqs=Q∧∀L∈LL,∀x∈L,x.right
theorem Rwss.later{w w':World}{a:Option Addr}{n cap:Nat}{Q:List (List Rat)}(h:Rwss w a n cap Q)(hb:Below w.heap.size w w'):Rwss w' a n cap Q:=by
 obtain⟨LL,h1,h2,h3⟩:=h
 exact⟨LL,h1.later hb,h2,h3⟩
theorem Rwss.l_ {w w':World}{x0 x1 x2 x3}(h:Rwss w x0 x1 x2 x3)(b:Below w.heap.size w w'):Hid (Rwss w' x0 x1 x2 x3):=Lib.hid (h.later b)
theorem Rwss.len{w:World}{a:Option Addr}{n cap:Nat}{Q:List (List Rat)}(h:Rwss w a n cap Q):Q.length=n:=by
 obtain⟨LL,h1,h2,_⟩:=h
 rw[←h2,List.length_map,h1.len]
theorem Rwss.bound{w:World}{a:Option Addr}{n cap:Nat}{Q:List (List Rat)}(h:Rwss w a n cap Q):n≤cap∧cap≤9223372036854775807:=by
 obtain⟨LL,h1,_,_⟩:=h
 exact h1.bound
theorem ss_{α:Type}{LL:List (List α)}{k:Nat}(h:k < LL.length):LL.getD k []∈LL:=by
 rw[List.getD_eq_getElem?_getD,List.getElem?_eq_getElem h];exact List.getElem_mem h
theorem fqs_row{LL:List (List Fx)}{k:Nat}(h:k < LL.length):fqs (LL.getD k [])=(LL.map fqs).getD k []:=by
 rw[List.getD_eq_getElem?_getD,List.getD_eq_getElem?_getD,List.getElem?_map,List.getElem?_eq_getElem h];rfl
theorem Rwss.at{w:World}{a:Option Addr}{n cap:Nat}{Q:List (List Rat)}(h:Rwss w a n cap Q){j:Nat}(hj:j < n):∃b off,a=some ⟨b,off,none⟩∧∃a' n' c',w.cell? ⟨b,off+j,none⟩=some (.slice a' n' c')∧Rw w a' n' c' (Q.getD j []):=by
 obtain⟨LL,h1,h2,h3⟩:=h
 obtain⟨b,off,e,a',n',c',h4,h5⟩:=h1.at hj
 have hl:j < LL.length:=by rw[h1.len];exact hj
 exact⟨b,off,e,a',n',c',h4,LL.getD j [],h5,by rw[←h2];exact fqs_row hl,h3 _ (ss_ hl)⟩
theorem Rwss.thin{w:World}{a:Option Addr}{n cap:Nat}{Q:List (List Rat)}(h:Rwss w a n cap Q){N:Nat}(hq:∀r∈Q,∀q∈r,qlen q≤N):∃LL,Fxss w a n cap LL∧LL.map fqs=Q∧∀L∈LL,Go.Proofs.YtocebjbjnfammaaGreat.thin N L:=by
 obtain⟨LL,h1,h2,h3⟩:=h
 refine ⟨LL,h1,h2,fun L hL x hx=>?_⟩
 obtain⟨i,hi,rfl⟩:=List.getElem_of_mem hL
 obtain⟨_,_,_,a',n',c',_,h5⟩:=h1.at (j:=i) (by rw[←h1.len];exact hi)
 rw[List.getD_eq_getElem?_getD,List.getElem?_eq_getElem hi] at h5
 have hr:Rw w a' n' c' (fqs LL[i]):=⟨LL[i],h5,rfl,h3 _ (List.getElem_mem hi)⟩
 obtain⟨q1,q2,q3⟩:=h3 _ (List.getElem_mem hi) x hx
 have h7:=hq (fqs LL[i]) (h2▸List.mem_map.2 ⟨LL[i],List.getElem_mem hi,rfl⟩) x.q (List.mem_map.2 ⟨x,hx,rfl⟩)
 obtain⟨h8,h9⟩:=h5.ok hx
 have:=h8.len
 have:=h9.len
 have:=a8_ x.q
 have:=a7_ x.q
 rw[q2] at *
 rw[q3] at *
 constructor <;> omega
theorem Rwss.nil(w:World):Rwss w none 0 0 []:=⟨[],Fxss.ofNil w,rfl,fun L hL=>by simp at hL⟩
def OwnR (w:World) (base:Nat) (e:TypeId) (v:Value) (Q:List (List Rat)):Prop:=∃LL,OwnF w base e v LL∧LL.map fqs=Q∧∀L∈LL,∀x∈L,x.right
theorem OwnR.nil(w:World)(base:Nat)(e:TypeId):OwnR w base e (.slice none 0 0) []:=⟨[],OwnF.nil _ _ _,rfl,fun L hL=>by simp at hL⟩
theorem OwnR.later{w w':World}{base:Nat}{e:TypeId}{v:Value}{Q:List (List Rat)}(h:OwnR w base e v Q)(hb:Below w.heap.size w w'):OwnR w' base e v Q:=by
 obtain⟨LL,h1,h2,h3⟩:=h
 exact⟨LL,h1.later hb,h2,h3⟩
theorem OwnR.l_ {w w':World}{x0 x1 x2 x3}(h:OwnR w x0 x1 x2 x3)(b:Below w.heap.size w w'):Hid (OwnR w' x0 x1 x2 x3):=Lib.hid (h.later b)
theorem OwnR.out{w:World}{base:Nat}{e:TypeId}{v:Value}{Q:List (List Rat)}(h:OwnR w base e v Q):∃(a:OA_) (cap:Nat),v=.slice a Q.length cap∧Rwss w a Q.length cap Q:=by
 obtain⟨LL,h1,h2,h3⟩:=h
 obtain⟨a,cap,e1,h4⟩:=h1.out
 have hl:LL.length=Q.length:=by rw[←h2,List.length_map]
 rw[hl] at e1 h4
 exact⟨a,cap,e1,LL,h4,h2,h3⟩
def rect {α:Type} (m:List (List α)):Prop:=∀r∈m,r.length=(m.getD 0 []).length
instance {α:Type} (m:List (List α)):Decidable (rect m):=by unfold rect;infer_instance
end Go.Proofs.YtocebjbjnfammaaGreat
