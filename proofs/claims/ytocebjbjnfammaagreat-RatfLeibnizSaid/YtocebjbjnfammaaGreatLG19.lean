import Derived.Test.YtocebjbjnfammaaGreatLG18
import Derived.BigRegion
import Derived.Lib.SliceRun
import Derived.Test.YtocebjbjnfammaaGreatLG16
import Derived.Test.YtocebjbjnfammaaGreatLG4
import Derived.Test.YtocebjbjnfammaaGreatLG1
set_option maxRecDepth 4096
set_option maxHeartbeats 16000000
namespace Go.Proofs.YtocebjbjnfammaaGreat
open Go.RowKit
theorem kn_(l m:LR_)(i:Nat):co (l ++ m) i=if i < l.length then co l i else co m (i - l.length):=by
 unfold co
 rw[List.getD_eq_getElem?_getD]
 split
 ·rw[List.getElem?_append_left ‹_›,List.getD_eq_getElem?_getD]
 ·rw[List.getElem?_append_right (by omega),List.getD_eq_getElem?_getD]
theorem pb_(l:LR_)(k i:Nat):co (l.drop k) i=co l (k+i):=by
 unfold co
 rw[List.getD_eq_getElem?_getD,List.getElem?_drop,List.getD_eq_getElem?_getD]
theorem pj_{l m:List Rat}(h:l.length=m.length)(i:Nat):co (radd l m) i=co l i+co m i:=by
 rcases Nat.lt_or_ge i l.length with h1 | h1
 ·exact g8_ h1 (by omega)
 ·rw[dx_ (by rw[c9_ _ _ h];exact h1),dx_ h1,dx_ (by omega)];grind
theorem mp_(L:List Fx)(k:Nat):fqs (L.drop k)=(fqs L).drop k:=by unfold fqs;rw[List.map_drop]
theorem add_parts{A B:List Rat}{n:Nat}(hn:n=min A.length B.length):peq (radd (A.take n) (B.take n) ++ aj_ (A.drop n) ++ aj_ (B.drop n)) (padd A B):=fun i=>by
 have h1:(A.take n).length=n:=by rw[List.length_take];omega
 have h2:(B.take n).length=n:=by rw[List.length_take];omega
 have h3:(radd (A.take n) (B.take n)).length=n:=by rw[c9_ _ _ (by omega),h1]
 have hor:A.drop n=[]∨B.drop n=[]:=by
  rcases Nat.le_total A.length B.length with h | h
  ·exact .inl (List.drop_eq_nil_of_le (by omega))
  ·exact .inr (List.drop_eq_nil_of_le (by omega))
 rw[a1_]
 rcases hor with h | h
 ·have h4:A.length≤n:=by rwa [List.drop_eq_nil_iff] at h
  rw[h]
  rw[show radd (A.take n) (B.take n) ++ aj_ [] ++ aj_ (B.drop n)=radd (A.take n) (B.take n) ++ aj_ (B.drop n) from by rw[show aj_ []=[] from rfl,List.append_nil],kn_,h3]
  split
  ·rw[pj_ (by omega),gz_,gz_,if_pos ‹_›,if_pos ‹_›]
  ·rw[ar_,pb_,show n+(i - n)=i by omega,dx_ (l:=A) (by omega)];grind
 ·have h4:B.length≤n:=by rwa [List.drop_eq_nil_iff] at h
  rw[h]
  rw[show radd (A.take n) (B.take n) ++ aj_ (A.drop n) ++ aj_ []=radd (A.take n) (B.take n) ++ aj_ (A.drop n) from by rw[show aj_ []=[] from rfl,List.append_nil],kn_,h3]
  split
  ·rw[pj_ (by omega),gz_,gz_,if_pos ‹_›,if_pos ‹_›]
  ·rw[ar_,pb_,show n+(i - n)=i by omega,dx_ (l:=B) (by omega)];grind
theorem Fxs.tail{w:World}{aa:Addr}{k c:Nat}{L:List Fx}{r:Nat}(h:Fxs w (some aa) k c L)(hr:r≤k):Fxs w (some (aa.add (r * 3))) (k - r) (c - r) (L.drop r):=by
 have h1:=h.bound
 have h2:=h.len
 rcases h.2.2.2.2.2 with h0 | ⟨b,off,e,hc⟩
 ·exact⟨by rw[List.length_drop];omega,by omega,by omega,fun e=>(by cases e),fun x hx=>h.ok (List.mem_of_mem_drop hx),.inl (by omega)⟩
 ·simp only[Option.some.injEq] at e
  subst e
  have h3:=Fxs.drop (q:=r) (m:=k - r) (by rw[Nat.add_sub_cancel' hr];exact h)
  rw[Go.WideShapes.add_plain]
  exact h3
theorem Fxs.tail_end{w:World}{aa:Addr}{k c:Nat}{L:List Fx}{r:Nat}(h:Fxs w (some aa) k c L)(hr:r≤k)(hc:c=r):Fxs w (some aa) (k - r) 0 (L.drop r):=by
 have h1:=h.bound
 have h2:=h.len
 exact⟨by rw[List.length_drop];omega,by omega,by omega,fun e=>(by cases e),fun x hx=>h.ok (List.mem_of_mem_drop hx),.inl (by omega)⟩
theorem Fxs.tail_none{w:World}{k c:Nat}{L:List Fx}{r:Nat}(h:Fxs w none k c L)(hr:r≤k):Fxs w none (k - r) (c - r) (L.drop r):=by
 have h1:=h.bound
 have h2:=h.len
 have h3:=h.2.2.2.1 rfl
 exact⟨by rw[List.length_drop];omega,by omega,by omega,fun e=>(by omega),fun x hx=>h.ok (List.mem_of_mem_drop hx),.inl (by omega)⟩
theorem qa_(a:OA_)(n c:Nat)(L:List Fx)(b:OA_)(m d:Nat)(M:List Fx)(w:World)(h:Fxs w a n c L)(k:Fxs w b m d M)(hn:n≤300)(hm:m≤300)(ht:thin 1000000000 L)(hu:thin 1000000000 M):Calls Tryz.prog 83 #[.slice a n c,.slice b m d] w (cw_ (aj_ (padd (fqs L) (fqs M))) w):=by
 have hbd:=h.bound
 have hbd2:=k.bound
 have hk1:=br_ h
 have hk2:=br_ k
 have HU1:∀w':World,Below w.heap.size w w'→Calls Tryz.prog 109 #[.slice a n c] w' (bo_ (.slice a (plen (fqs L)) c) w'):=fun w' hb=>dm_ a n c L w' (h.later hb) (by omega) (ht.mono (by decide))
 have HU2:∀w':World,Below w.heap.size w w'→Calls Tryz.prog 109 #[.slice b m d] w' (bo_ (.slice b (plen (fqs M)) d) w'):=fun w' hb=>dm_ b m d M w' (k.later hb) (by omega) (hu.mono (by decide))
 have HA:=hd_ (h.take hk1)
 have HM:=hd_ (k.take hk2)
 have TA:=hd_ (c4_ ht (plen (fqs L)))
 have TM:=hd_ (c4_ hu (plen (fqs M)))
 have QA:Hid (fqs (L.take (plen (fqs L)))=aj_ (fqs L)):=hd_ (ei_ L)
 have QM:Hid (fqs (M.take (plen (fqs M)))=aj_ (fqs M)):=hd_ (ei_ M)
 have hE:aj_ (padd (fqs L) (fqs M))=aj_ (padd (aj_ (fqs L)) (aj_ (fqs M))):=bj_ (cl_ (ar_ _).symm (ar_ _).symm)
 rw[hE]
 clear hE
 generalize plen (fqs L)=k1 at *
 generalize plen (fqs M)=k2 at *
 obtain⟨L1,hL1⟩:∃L1,L.take k1=L1:=⟨_,rfl⟩
 obtain⟨M1,hM1⟩:∃M1,M.take k2=M1:=⟨_,rfl⟩
 rw[hL1] at HA TA QA
 rw[hM1] at HM TM QM
 rw[←QA.out,←QM.out]
 obtain⟨r,hr⟩:∃r,min k1 k2=r:=⟨_,rfl⟩
 have hr1:r≤k1:=by omega
 have hr2:r≤k2:=by omega
 have hmin:min (k1:Int) (k2:Int)=(r:Int):=by omega
 have hI1:(r:Int)≤(k1:Int):=by omega
 have hI2:(r:Int)≤(k2:Int):=by omega
 have hI3:(r:Int)≤(c:Int):=by omega
 have hI4:(r:Int)≤(d:Int):=by omega
 have HB:=hd_ (Below.refl w.heap.size w)
 clear h k ht hu hL1 hM1 QA QM
 have HADD:∀w':World,Fxs w' a r c (L1.take r)→Fxs w' b r d (M1.take r)→Calls Tryz.prog 121 #[.slice (some ⟨w'.heap.size,0,none⟩) 2 2] (w'.alloc (.cells #[.slice a r c,.slice b r d] 33)) (p0_ (radd (fqs (L1.take r)) (fqs (M1.take r))) (.bool true) (w'.alloc (.cells #[.slice a r c,.slice b r d] 33))):=fun w' h1 h2=>by
  refine no_ _ 2 2 [L1.take r,M1.take r] _ (Fxss.lit2 w' 33 h1 h2) (by omega) 1000000000 (by decide) (by decide) (fun X hX=>?_) (by omega) (fun x hx y hy=>?_)
  ·simp only[List.mem_cons,List.not_mem_nil,or_false] at hX
   rcases hX with rfl | rfl
   ·exact⟨by rw[h1.len];omega,c4_ TA.out r⟩
   ·exact⟨by rw[h2.len];omega,c4_ TM.out r⟩
  ·have e1:=h1.len
   have e2:=h2.len
   simp only[List.map_cons,List.map_nil,List.mem_cons,List.not_mem_nil,or_false] at hx hy
   rcases hx with rfl | rfl <;> rcases hy with rfl | rfl <;> simp only[aq_] <;> omega
 have FA:Hid (Fxs w a r c (L1.take r)):=hd_ (HA.out.take hr1)
 have FM:Hid (Fxs w b r d (M1.take r)):=hd_ (HM.out.take hr2)
 have PE:Hid (peq (radd (fqs (L1.take r)) (fqs (M1.take r)) ++ aj_ (fqs (L1.drop r)) ++ aj_ (fqs (M1.drop r))) (padd (fqs L1) (fqs M1))):=hd_ (by
  have h9:=add_parts (A:=fqs L1) (B:=fqs M1) (n:=r) (by rw[aq_,aq_,HA.out.len,HM.out.len,hr])
  rwa [←hw_,←hw_,←mp_,←mp_] at h9)
 have DA:Hid (thin 1000000000 (L1.drop r)):=hd_ (fun x hx=>TA.out x (List.mem_of_mem_drop hx))
 have DM:Hid (thin 1000000000 (M1.drop r)):=hd_ (fun x hx=>TM.out x (List.mem_of_mem_drop hx))
 have QS:Hid (∀q∈radd (fqs (L1.take r)) (fqs (M1.take r)) ++ aj_ (fqs (L1.drop r)) ++ aj_ (fqs (M1.drop r)),qlen q≤2097152000):=hd_ (by
  have h1:=TA.out.qs HA.out.oks
  have h2:=TM.out.qs HM.out.oks
  intro q hq
  obtain⟨i,hi,rfl⟩:=List.getElem_of_mem hq
  have h3:=PE.out i
  rw[a1_] at h3
  have h4:co (radd (fqs (L1.take r)) (fqs (M1.take r)) ++ aj_ (fqs (L1.drop r)) ++ aj_ (fqs (M1.drop r))) i=(radd (fqs (L1.take r)) (fqs (M1.take r)) ++ aj_ (fqs (L1.drop r)) ++ aj_ (fqs (M1.drop r)))[i]:=by
   unfold co
   rw[List.getD_eq_getElem?_getD,List.getElem?_eq_getElem hi];rfl
  rw[←h4,h3]
  have h5:=gh_ (co (fqs L1) i) (co (fqs M1) i)
  have h6:=dd_ (by decide) h1 i
  have h7:=dd_ (by decide) h2 i
  omega)
 have LS:Hid ((radd (fqs (L1.take r)) (fqs (M1.take r)) ++ aj_ (fqs (L1.drop r)) ++ aj_ (fqs (M1.drop r))).length≤1000):=hd_ (by
  rw[List.length_append,List.length_append,c9_ _ _ (by rw[aq_,aq_,FA.out.len,FM.out.len]),aq_,FA.out.len]
  have h1:=bc_ (fqs (L1.drop r))
  have h2:=bc_ (fqs (M1.drop r))
  rw[aq_,List.length_drop,HA.out.len] at h1
  rw[aq_,List.length_drop,HM.out.len] at h2
  omega)
 have HN1:∀(w':World) (a':OA_) (c':Nat),Fxs w' a' (k1 - r) c' (L1.drop r)→Calls Tryz.prog 95 #[.slice a' (k1 - r) c'] w' (cw_ (aj_ (fqs (L1.drop r))) w'):=fun w' a' c' h9=>jv_ a' _ c' _ w' h9 (by omega) (DA.out.mono (by decide))
 have HN2:∀(w':World) (a':OA_) (c':Nat),Fxs w' a' (k2 - r) c' (M1.drop r)→Calls Tryz.prog 95 #[.slice a' (k2 - r) c'] w' (cw_ (aj_ (fqs (M1.drop r))) w'):=fun w' a' c' h9=>jv_ a' _ c' _ w' h9 (by omega) (DM.out.mono (by decide))
 have hS:(radd (fqs (L1.take r)) (fqs (M1.take r))).length≤300:=by
  rw[c9_ _ _ (by rw[aq_,aq_,FA.out.len,FM.out.len]),aq_,FA.out.len];omega
 have hPA:(aj_ (fqs (L1.drop r))).length≤300:=by
  have h1:=bc_ (fqs (L1.drop r))
  rw[aq_,List.length_drop,HA.out.len] at h1
  omega
 have hPB:(aj_ (fqs (M1.drop r))).length≤300:=by
  have h1:=bc_ (fqs (M1.drop r))
  rw[aq_,List.length_drop,HM.out.len] at h1
  omega
 rw[←bj_ PE.out]
 clear hr PE
 generalize radd (fqs (L1.take r)) (fqs (M1.take r))=SS at *
 generalize aj_ (fqs (L1.drop r))=PA at *
 generalize aj_ (fqs (M1.drop r))=PB at *
 have HCC:∀(w':World) (a4:OA_) (n4 c4:Nat) (a5:OA_) (n5 c5:Nat) (a6:OA_) (n6 c6:Nat),Rw w' a4 n4 c4 SS→Rw w' a5 n5 c5 PA→Rw w' a6 n6 c6 PB→Calls Tryz.prog 122 #[.slice (some ⟨w'.heap.size,0,none⟩) 3 3] (w'.alloc (.cells #[.slice a4 n4 c4,.slice a5 n5 c5,.slice a6 n6 c6] 33)) (cw_ (SS ++ PA ++ PB) w'):=fun w' a4 n4 c4 a5 n5 c5 a6 n6 c6 h4 h5 h6=>by
  obtain⟨L4,x4,y4,z4⟩:=h4
  obtain⟨L5,x5,y5,z5⟩:=h5
  obtain⟨L6,x6,y6,z6⟩:=h6
  refine (fr_concat _ 3 3 [L4,L5,L6] _ (Fxss.lit3 w' 33 x4 x5 x6) (by omega) (fun X hX=>?_) (fun X hX=>?_)).mono fun e w2 h9=>?_
  ·simp only[List.mem_cons,List.not_mem_nil,or_false] at hX
   rcases hX with rfl | rfl | rfl
   ·rw[←y4,List.length_map] at hS;exact hS
   ·rw[←y5,List.length_map] at hPA;exact hPA
   ·rw[←y6,List.length_map] at hPB;exact hPB
  ·simp only[List.mem_cons,List.not_mem_nil,or_false] at hX
   rcases hX with rfl | rfl | rfl <;> assumption
  ·obtain⟨a7,n7,c7,e7,h7,b7⟩:=h9.out
   refine ⟨a7,n7,c7,e7,?_,ab_ (aa_ _ _) b7⟩
   rwa [show fqs [L4,L5,L6].flatten=SS ++ PA ++ PB by rw[←y4,←y5,←y6];unfold fqs;simp] at h7
 have HUR:∀(w':World) (a':OA_) (n' c':Nat),Rw w' a' n' c' (SS ++ PA ++ PB)→Calls Tryz.prog 109 #[.slice a' n' c'] w' (fun e w''=>e=.returned (.slice a' (plen (SS ++ PA ++ PB)) c')∧Rw w'' a' (plen (SS ++ PA ++ PB)) c' (aj_ (SS ++ PA ++ PB))∧Below w'.heap.size w' w''):=fun w' a' n' c' h9=>gb_ a' n' c' _ w' h9 (by rw[←h9.len];exact LS.out) QS.out
 generalize plen (SS ++ PA ++ PB)=k9 at *
 generalize aj_ (SS ++ PA ++ PB)=RR at *
 clear hS hPA hPB LS QS DA DM TA TM
 rcases a with _ | aa <;> rcases b with _ | bb
 ·skip
  have XA:=hd_ (HA.out.tail_none hr1)
  have XB:=hd_ (HM.out.tail_none hr2)
  go_enter Tryz.func83,Tryz.ntmps83
  go_wp2_with fail
  refine (HU1 _ HB.out).mono ?_
  rintro e w1 ⟨rfl,bw⟩
  replace HB:=bt_ HB bw
  clear bw HU1
  go_wp2_with fail
  refine (HU2 _ HB.out).mono ?_
  rintro e w1 ⟨rfl,bw⟩
  replace HB:=bt_ HB bw
  clear bw HU2
  go_wp2
  have b0:Below w1.heap.size w1 w1.drew:=(Below.refl _ _).drew
  have HBd:=hd_ (ab_ HB.out b0)
  have HC:=hd_ (HADD w1.drew (FA.out.later HBd.out) (FM.out.later HBd.out))
  have ba:=aa_ w1.drew (.cells #[.slice none r c,.slice none r d] 33)
  have HB6:=hd_ (ab_ HBd.out ba)
  clear b0 ba HBd HB HADD FA FM
  go_region_with (first
   | (go_at_call 121;refine (HC.out).mono ?_;rintro e w4 ⟨a4,n4,c4,rfl,h4,bw⟩;have HB:=hd_ (ab_ HB6.out bw);have H4:=hd_ h4;clear bw h4 HC HB6))
  all_goals (
   go_wp2
   replace XA:=hd_ (XA.out.later HB.out)
   replace XB:=hd_ (XB.out.later HB.out)
   replace HB:=bt_ HB (dw_ w4)
   replace XA:=XA.l_ (dw_ w4)
   replace XB:=XB.l_ (dw_ w4)
   replace H4:=H4.l_ (dw_ w4)
   first | go_region_with (first
    | (go_at_call 95;(first
      | (have pm1:=pM1;refine (HN2 _ none (d - r) XB.out).mono ?_;rintro e wp2 ⟨a6,n6,c6,rfl,h,b⟩;replace HB:=bt_ HB b;replace XA:=XA.l_ b;replace XB:=XB.l_ b;replace H4:=H4.l_ b;replace R5:=R5.l_ b;have R6:=hd_ h;clear h;clear b;clear pM1 pm1;have pM2:=True.intro)
      | (refine (HN1 _ none (c - r) XA.out).mono ?_;rintro e wp1 ⟨a5,n5,c5,rfl,h,b⟩;replace HB:=bt_ HB b;replace XA:=XA.l_ b;replace XB:=XB.l_ b;replace H4:=H4.l_ b;have R5:=hd_ h;clear h;clear b;have pM1:=True.intro)))
    | (go_at_call 122;(first
      | (have pm2:=pM2;refine (HCC _ a4 n4 c4 a5 n5 c5 a6 n6 c6 H4.out R5.out R6.out).mono ?_;rintro e wp3 ⟨a7,n7,c7,rfl,h,b⟩;replace HB:=bt_ HB b;replace XA:=XA.l_ b;replace XB:=XB.l_ b;replace H4:=H4.l_ b;clear R5;clear R6;have R7:=hd_ h;clear h;clear b;clear pM2 pm2;have pM3:=True.intro)))
    | (go_at_call 109;(first
      | (have pm3:=pM3;refine (HUR _ a7 n7 c7 R7.out).mono ?_;rintro e wp4 ⟨rfl,h,b⟩;replace HB:=bt_ HB b;replace XA:=XA.l_ b;replace XB:=XB.l_ b;replace H4:=H4.l_ b;clear R7;have R8:=hd_ h;clear h;clear b;clear pM3 pm3;have pM4:=True.intro)))) | fail
   all_goals (
    go_wp2
    go_ret
    exact⟨a7,k9,c7,rfl,R8.out,HB.out⟩))
 ·by_cases hd1:d=r
  ·skip
   obtain rfl:r=d:=hd1.symm
   have XA:=hd_ (HA.out.tail_none hr1)
   have XB:=hd_ (HM.out.tail_end hr2 rfl)
   go_enter Tryz.func83,Tryz.ntmps83
   go_wp2_with fail
   refine (HU1 _ HB.out).mono ?_
   rintro e w1 ⟨rfl,bw⟩
   replace HB:=bt_ HB bw
   clear bw HU1
   go_wp2_with fail
   refine (HU2 _ HB.out).mono ?_
   rintro e w1 ⟨rfl,bw⟩
   replace HB:=bt_ HB bw
   clear bw HU2
   go_wp2
   have b0:Below w1.heap.size w1 w1.drew:=(Below.refl _ _).drew
   have HBd:=hd_ (ab_ HB.out b0)
   have HC:=hd_ (HADD w1.drew (FA.out.later HBd.out) (FM.out.later HBd.out))
   have ba:=aa_ w1.drew (.cells #[.slice none r c,.slice (some bb) r r] 33)
   have HB6:=hd_ (ab_ HBd.out ba)
   clear b0 ba HBd HB HADD FA FM
   go_region_with (first
    | (go_at_call 121;refine (HC.out).mono ?_;rintro e w4 ⟨a4,n4,c4,rfl,h4,bw⟩;have HB:=hd_ (ab_ HB6.out bw);have H4:=hd_ h4;clear bw h4 HC HB6))
   all_goals (
    go_wp2
    replace XA:=hd_ (XA.out.later HB.out)
    replace XB:=hd_ (XB.out.later HB.out)
    replace HB:=bt_ HB (dw_ w4)
    replace XA:=XA.l_ (dw_ w4)
    replace XB:=XB.l_ (dw_ w4)
    replace H4:=H4.l_ (dw_ w4)
    first | go_region_with (first
     | (go_at_call 95;(first
       | (have pm1:=pM1;refine (HN2 _ (some bb) 0 XB.out).mono ?_;rintro e wp2 ⟨a6,n6,c6,rfl,h,b⟩;replace HB:=bt_ HB b;replace XA:=XA.l_ b;replace XB:=XB.l_ b;replace H4:=H4.l_ b;replace R5:=R5.l_ b;have R6:=hd_ h;clear h;clear b;clear pM1 pm1;have pM2:=True.intro)
       | (refine (HN1 _ none (c - r) XA.out).mono ?_;rintro e wp1 ⟨a5,n5,c5,rfl,h,b⟩;replace HB:=bt_ HB b;replace XA:=XA.l_ b;replace XB:=XB.l_ b;replace H4:=H4.l_ b;have R5:=hd_ h;clear h;clear b;have pM1:=True.intro)))
     | (go_at_call 122;(first
       | (have pm2:=pM2;refine (HCC _ a4 n4 c4 a5 n5 c5 a6 n6 c6 H4.out R5.out R6.out).mono ?_;rintro e wp3 ⟨a7,n7,c7,rfl,h,b⟩;replace HB:=bt_ HB b;replace XA:=XA.l_ b;replace XB:=XB.l_ b;replace H4:=H4.l_ b;clear R5;clear R6;have R7:=hd_ h;clear h;clear b;clear pM2 pm2;have pM3:=True.intro)))
     | (go_at_call 109;(first
       | (have pm3:=pM3;refine (HUR _ a7 n7 c7 R7.out).mono ?_;rintro e wp4 ⟨rfl,h,b⟩;replace HB:=bt_ HB b;replace XA:=XA.l_ b;replace XB:=XB.l_ b;replace H4:=H4.l_ b;clear R7;have R8:=hd_ h;clear h;clear b;clear pM3 pm3;have pM4:=True.intro)))) | fail
    all_goals (
     go_wp2
     go_ret
     exact⟨a7,k9,c7,rfl,R8.out,HB.out⟩))
  ·skip
   have XA:=hd_ (HA.out.tail_none hr1)
   have XB:=hd_ (HM.out.tail hr2)
   go_enter Tryz.func83,Tryz.ntmps83
   go_wp2_with fail
   refine (HU1 _ HB.out).mono ?_
   rintro e w1 ⟨rfl,bw⟩
   replace HB:=bt_ HB bw
   clear bw HU1
   go_wp2_with fail
   refine (HU2 _ HB.out).mono ?_
   rintro e w1 ⟨rfl,bw⟩
   replace HB:=bt_ HB bw
   clear bw HU2
   go_wp2
   have b0:Below w1.heap.size w1 w1.drew:=(Below.refl _ _).drew
   have HBd:=hd_ (ab_ HB.out b0)
   have HC:=hd_ (HADD w1.drew (FA.out.later HBd.out) (FM.out.later HBd.out))
   have ba:=aa_ w1.drew (.cells #[.slice none r c,.slice (some bb) r d] 33)
   have HB6:=hd_ (ab_ HBd.out ba)
   clear b0 ba HBd HB HADD FA FM
   go_region_with (first
    | (go_at_call 121;refine (HC.out).mono ?_;rintro e w4 ⟨a4,n4,c4,rfl,h4,bw⟩;have HB:=hd_ (ab_ HB6.out bw);have H4:=hd_ h4;clear bw h4 HC HB6))
   all_goals (
    go_wp2
    replace XA:=hd_ (XA.out.later HB.out)
    replace XB:=hd_ (XB.out.later HB.out)
    replace HB:=bt_ HB (dw_ w4)
    replace XA:=XA.l_ (dw_ w4)
    replace XB:=XB.l_ (dw_ w4)
    replace H4:=H4.l_ (dw_ w4)
    first | go_region_with (first
     | (go_at_call 95;(first
       | (have pm1:=pM1;refine (HN2 _ (some (bb.add (r * 3))) (d - r) XB.out).mono ?_;rintro e wp2 ⟨a6,n6,c6,rfl,h,b⟩;replace HB:=bt_ HB b;replace XA:=XA.l_ b;replace XB:=XB.l_ b;replace H4:=H4.l_ b;replace R5:=R5.l_ b;have R6:=hd_ h;clear h;clear b;clear pM1 pm1;have pM2:=True.intro)
       | (refine (HN1 _ none (c - r) XA.out).mono ?_;rintro e wp1 ⟨a5,n5,c5,rfl,h,b⟩;replace HB:=bt_ HB b;replace XA:=XA.l_ b;replace XB:=XB.l_ b;replace H4:=H4.l_ b;have R5:=hd_ h;clear h;clear b;have pM1:=True.intro)))
     | (go_at_call 122;(first
       | (have pm2:=pM2;refine (HCC _ a4 n4 c4 a5 n5 c5 a6 n6 c6 H4.out R5.out R6.out).mono ?_;rintro e wp3 ⟨a7,n7,c7,rfl,h,b⟩;replace HB:=bt_ HB b;replace XA:=XA.l_ b;replace XB:=XB.l_ b;replace H4:=H4.l_ b;clear R5;clear R6;have R7:=hd_ h;clear h;clear b;clear pM2 pm2;have pM3:=True.intro)))
     | (go_at_call 109;(first
       | (have pm3:=pM3;refine (HUR _ a7 n7 c7 R7.out).mono ?_;rintro e wp4 ⟨rfl,h,b⟩;replace HB:=bt_ HB b;replace XA:=XA.l_ b;replace XB:=XB.l_ b;replace H4:=H4.l_ b;clear R7;have R8:=hd_ h;clear h;clear b;clear pM3 pm3;have pM4:=True.intro)))) | fail
    all_goals (
     go_wp2
     go_ret
     exact⟨a7,k9,c7,rfl,R8.out,HB.out⟩))
 ·by_cases hc1:c=r
  ·skip
   obtain rfl:r=c:=hc1.symm
   have XA:=hd_ (HA.out.tail_end hr1 rfl)
   have XB:=hd_ (HM.out.tail_none hr2)
   go_enter Tryz.func83,Tryz.ntmps83
   go_wp2_with fail
   refine (HU1 _ HB.out).mono ?_
   rintro e w1 ⟨rfl,bw⟩
   replace HB:=bt_ HB bw
   clear bw HU1
   go_wp2_with fail
   refine (HU2 _ HB.out).mono ?_
   rintro e w1 ⟨rfl,bw⟩
   replace HB:=bt_ HB bw
   clear bw HU2
   go_wp2
   have b0:Below w1.heap.size w1 w1.drew:=(Below.refl _ _).drew
   have HBd:=hd_ (ab_ HB.out b0)
   have HC:=hd_ (HADD w1.drew (FA.out.later HBd.out) (FM.out.later HBd.out))
   have ba:=aa_ w1.drew (.cells #[.slice (some aa) r r,.slice none r d] 33)
   have HB6:=hd_ (ab_ HBd.out ba)
   clear b0 ba HBd HB HADD FA FM
   go_region_with (first
    | (go_at_call 121;refine (HC.out).mono ?_;rintro e w4 ⟨a4,n4,c4,rfl,h4,bw⟩;have HB:=hd_ (ab_ HB6.out bw);have H4:=hd_ h4;clear bw h4 HC HB6))
   all_goals (
    go_wp2
    replace XA:=hd_ (XA.out.later HB.out)
    replace XB:=hd_ (XB.out.later HB.out)
    replace HB:=bt_ HB (dw_ w4)
    replace XA:=XA.l_ (dw_ w4)
    replace XB:=XB.l_ (dw_ w4)
    replace H4:=H4.l_ (dw_ w4)
    first | go_region_with (first
     | (go_at_call 95;(first
       | (have pm1:=pM1;refine (HN2 _ none (d - r) XB.out).mono ?_;rintro e wp2 ⟨a6,n6,c6,rfl,h,b⟩;replace HB:=bt_ HB b;replace XA:=XA.l_ b;replace XB:=XB.l_ b;replace H4:=H4.l_ b;replace R5:=R5.l_ b;have R6:=hd_ h;clear h;clear b;clear pM1 pm1;have pM2:=True.intro)
       | (refine (HN1 _ (some aa) 0 XA.out).mono ?_;rintro e wp1 ⟨a5,n5,c5,rfl,h,b⟩;replace HB:=bt_ HB b;replace XA:=XA.l_ b;replace XB:=XB.l_ b;replace H4:=H4.l_ b;have R5:=hd_ h;clear h;clear b;have pM1:=True.intro)))
     | (go_at_call 122;(first
       | (have pm2:=pM2;refine (HCC _ a4 n4 c4 a5 n5 c5 a6 n6 c6 H4.out R5.out R6.out).mono ?_;rintro e wp3 ⟨a7,n7,c7,rfl,h,b⟩;replace HB:=bt_ HB b;replace XA:=XA.l_ b;replace XB:=XB.l_ b;replace H4:=H4.l_ b;clear R5;clear R6;have R7:=hd_ h;clear h;clear b;clear pM2 pm2;have pM3:=True.intro)))
     | (go_at_call 109;(first
       | (have pm3:=pM3;refine (HUR _ a7 n7 c7 R7.out).mono ?_;rintro e wp4 ⟨rfl,h,b⟩;replace HB:=bt_ HB b;replace XA:=XA.l_ b;replace XB:=XB.l_ b;replace H4:=H4.l_ b;clear R7;have R8:=hd_ h;clear h;clear b;clear pM3 pm3;have pM4:=True.intro)))) | fail
    all_goals (
     go_wp2
     go_ret
     exact⟨a7,k9,c7,rfl,R8.out,HB.out⟩))
  ·skip
   have XA:=hd_ (HA.out.tail hr1)
   have XB:=hd_ (HM.out.tail_none hr2)
   go_enter Tryz.func83,Tryz.ntmps83
   go_wp2_with fail
   refine (HU1 _ HB.out).mono ?_
   rintro e w1 ⟨rfl,bw⟩
   replace HB:=bt_ HB bw
   clear bw HU1
   go_wp2_with fail
   refine (HU2 _ HB.out).mono ?_
   rintro e w1 ⟨rfl,bw⟩
   replace HB:=bt_ HB bw
   clear bw HU2
   go_wp2
   have b0:Below w1.heap.size w1 w1.drew:=(Below.refl _ _).drew
   have HBd:=hd_ (ab_ HB.out b0)
   have HC:=hd_ (HADD w1.drew (FA.out.later HBd.out) (FM.out.later HBd.out))
   have ba:=aa_ w1.drew (.cells #[.slice (some aa) r c,.slice none r d] 33)
   have HB6:=hd_ (ab_ HBd.out ba)
   clear b0 ba HBd HB HADD FA FM
   go_region_with (first
    | (go_at_call 121;refine (HC.out).mono ?_;rintro e w4 ⟨a4,n4,c4,rfl,h4,bw⟩;have HB:=hd_ (ab_ HB6.out bw);have H4:=hd_ h4;clear bw h4 HC HB6))
   all_goals (
    go_wp2
    replace XA:=hd_ (XA.out.later HB.out)
    replace XB:=hd_ (XB.out.later HB.out)
    replace HB:=bt_ HB (dw_ w4)
    replace XA:=XA.l_ (dw_ w4)
    replace XB:=XB.l_ (dw_ w4)
    replace H4:=H4.l_ (dw_ w4)
    first | go_region_with (first
     | (go_at_call 95;(first
       | (have pm1:=pM1;refine (HN2 _ none (d - r) XB.out).mono ?_;rintro e wp2 ⟨a6,n6,c6,rfl,h,b⟩;replace HB:=bt_ HB b;replace XA:=XA.l_ b;replace XB:=XB.l_ b;replace H4:=H4.l_ b;replace R5:=R5.l_ b;have R6:=hd_ h;clear h;clear b;clear pM1 pm1;have pM2:=True.intro)
       | (refine (HN1 _ (some (aa.add (r * 3))) (c - r) XA.out).mono ?_;rintro e wp1 ⟨a5,n5,c5,rfl,h,b⟩;replace HB:=bt_ HB b;replace XA:=XA.l_ b;replace XB:=XB.l_ b;replace H4:=H4.l_ b;have R5:=hd_ h;clear h;clear b;have pM1:=True.intro)))
     | (go_at_call 122;(first
       | (have pm2:=pM2;refine (HCC _ a4 n4 c4 a5 n5 c5 a6 n6 c6 H4.out R5.out R6.out).mono ?_;rintro e wp3 ⟨a7,n7,c7,rfl,h,b⟩;replace HB:=bt_ HB b;replace XA:=XA.l_ b;replace XB:=XB.l_ b;replace H4:=H4.l_ b;clear R5;clear R6;have R7:=hd_ h;clear h;clear b;clear pM2 pm2;have pM3:=True.intro)))
     | (go_at_call 109;(first
       | (have pm3:=pM3;refine (HUR _ a7 n7 c7 R7.out).mono ?_;rintro e wp4 ⟨rfl,h,b⟩;replace HB:=bt_ HB b;replace XA:=XA.l_ b;replace XB:=XB.l_ b;replace H4:=H4.l_ b;clear R7;have R8:=hd_ h;clear h;clear b;clear pM3 pm3;have pM4:=True.intro)))) | fail
    all_goals (
     go_wp2
     go_ret
     exact⟨a7,k9,c7,rfl,R8.out,HB.out⟩))
 ·by_cases hc1:c=r <;> by_cases hd1:d=r
  ·skip
   obtain rfl:r=c:=hc1.symm
   obtain rfl:r=d:=hd1.symm
   have XA:=hd_ (HA.out.tail_end hr1 rfl)
   have XB:=hd_ (HM.out.tail_end hr2 rfl)
   go_enter Tryz.func83,Tryz.ntmps83
   go_wp2_with fail
   refine (HU1 _ HB.out).mono ?_
   rintro e w1 ⟨rfl,bw⟩
   replace HB:=bt_ HB bw
   clear bw HU1
   go_wp2_with fail
   refine (HU2 _ HB.out).mono ?_
   rintro e w1 ⟨rfl,bw⟩
   replace HB:=bt_ HB bw
   clear bw HU2
   go_wp2
   have b0:Below w1.heap.size w1 w1.drew:=(Below.refl _ _).drew
   have HBd:=hd_ (ab_ HB.out b0)
   have HC:=hd_ (HADD w1.drew (FA.out.later HBd.out) (FM.out.later HBd.out))
   have ba:=aa_ w1.drew (.cells #[.slice (some aa) r r,.slice (some bb) r r] 33)
   have HB6:=hd_ (ab_ HBd.out ba)
   clear b0 ba HBd HB HADD FA FM
   go_region_with (first
    | (go_at_call 121;refine (HC.out).mono ?_;rintro e w4 ⟨a4,n4,c4,rfl,h4,bw⟩;have HB:=hd_ (ab_ HB6.out bw);have H4:=hd_ h4;clear bw h4 HC HB6))
   all_goals (
    go_wp2
    replace XA:=hd_ (XA.out.later HB.out)
    replace XB:=hd_ (XB.out.later HB.out)
    replace HB:=bt_ HB (dw_ w4)
    replace XA:=XA.l_ (dw_ w4)
    replace XB:=XB.l_ (dw_ w4)
    replace H4:=H4.l_ (dw_ w4)
    first | go_region_with (first
     | (go_at_call 95;(first
       | (have pm1:=pM1;refine (HN2 _ (some bb) 0 XB.out).mono ?_;rintro e wp2 ⟨a6,n6,c6,rfl,h,b⟩;replace HB:=bt_ HB b;replace XA:=XA.l_ b;replace XB:=XB.l_ b;replace H4:=H4.l_ b;replace R5:=R5.l_ b;have R6:=hd_ h;clear h;clear b;clear pM1 pm1;have pM2:=True.intro)
       | (refine (HN1 _ (some aa) 0 XA.out).mono ?_;rintro e wp1 ⟨a5,n5,c5,rfl,h,b⟩;replace HB:=bt_ HB b;replace XA:=XA.l_ b;replace XB:=XB.l_ b;replace H4:=H4.l_ b;have R5:=hd_ h;clear h;clear b;have pM1:=True.intro)))
     | (go_at_call 122;(first
       | (have pm2:=pM2;refine (HCC _ a4 n4 c4 a5 n5 c5 a6 n6 c6 H4.out R5.out R6.out).mono ?_;rintro e wp3 ⟨a7,n7,c7,rfl,h,b⟩;replace HB:=bt_ HB b;replace XA:=XA.l_ b;replace XB:=XB.l_ b;replace H4:=H4.l_ b;clear R5;clear R6;have R7:=hd_ h;clear h;clear b;clear pM2 pm2;have pM3:=True.intro)))
     | (go_at_call 109;(first
       | (have pm3:=pM3;refine (HUR _ a7 n7 c7 R7.out).mono ?_;rintro e wp4 ⟨rfl,h,b⟩;replace HB:=bt_ HB b;replace XA:=XA.l_ b;replace XB:=XB.l_ b;replace H4:=H4.l_ b;clear R7;have R8:=hd_ h;clear h;clear b;clear pM3 pm3;have pM4:=True.intro)))) | fail
    all_goals (
     go_wp2
     go_ret
     exact⟨a7,k9,c7,rfl,R8.out,HB.out⟩))
  ·skip
   obtain rfl:r=c:=hc1.symm
   have XA:=hd_ (HA.out.tail_end hr1 rfl)
   have XB:=hd_ (HM.out.tail hr2)
   go_enter Tryz.func83,Tryz.ntmps83
   go_wp2_with fail
   refine (HU1 _ HB.out).mono ?_
   rintro e w1 ⟨rfl,bw⟩
   replace HB:=bt_ HB bw
   clear bw HU1
   go_wp2_with fail
   refine (HU2 _ HB.out).mono ?_
   rintro e w1 ⟨rfl,bw⟩
   replace HB:=bt_ HB bw
   clear bw HU2
   go_wp2
   have b0:Below w1.heap.size w1 w1.drew:=(Below.refl _ _).drew
   have HBd:=hd_ (ab_ HB.out b0)
   have HC:=hd_ (HADD w1.drew (FA.out.later HBd.out) (FM.out.later HBd.out))
   have ba:=aa_ w1.drew (.cells #[.slice (some aa) r r,.slice (some bb) r d] 33)
   have HB6:=hd_ (ab_ HBd.out ba)
   clear b0 ba HBd HB HADD FA FM
   go_region_with (first
    | (go_at_call 121;refine (HC.out).mono ?_;rintro e w4 ⟨a4,n4,c4,rfl,h4,bw⟩;have HB:=hd_ (ab_ HB6.out bw);have H4:=hd_ h4;clear bw h4 HC HB6))
   all_goals (
    go_wp2
    replace XA:=hd_ (XA.out.later HB.out)
    replace XB:=hd_ (XB.out.later HB.out)
    replace HB:=bt_ HB (dw_ w4)
    replace XA:=XA.l_ (dw_ w4)
    replace XB:=XB.l_ (dw_ w4)
    replace H4:=H4.l_ (dw_ w4)
    first | go_region_with (first
     | (go_at_call 95;(first
       | (have pm1:=pM1;refine (HN2 _ (some (bb.add (r * 3))) (d - r) XB.out).mono ?_;rintro e wp2 ⟨a6,n6,c6,rfl,h,b⟩;replace HB:=bt_ HB b;replace XA:=XA.l_ b;replace XB:=XB.l_ b;replace H4:=H4.l_ b;replace R5:=R5.l_ b;have R6:=hd_ h;clear h;clear b;clear pM1 pm1;have pM2:=True.intro)
       | (refine (HN1 _ (some aa) 0 XA.out).mono ?_;rintro e wp1 ⟨a5,n5,c5,rfl,h,b⟩;replace HB:=bt_ HB b;replace XA:=XA.l_ b;replace XB:=XB.l_ b;replace H4:=H4.l_ b;have R5:=hd_ h;clear h;clear b;have pM1:=True.intro)))
     | (go_at_call 122;(first
       | (have pm2:=pM2;refine (HCC _ a4 n4 c4 a5 n5 c5 a6 n6 c6 H4.out R5.out R6.out).mono ?_;rintro e wp3 ⟨a7,n7,c7,rfl,h,b⟩;replace HB:=bt_ HB b;replace XA:=XA.l_ b;replace XB:=XB.l_ b;replace H4:=H4.l_ b;clear R5;clear R6;have R7:=hd_ h;clear h;clear b;clear pM2 pm2;have pM3:=True.intro)))
     | (go_at_call 109;(first
       | (have pm3:=pM3;refine (HUR _ a7 n7 c7 R7.out).mono ?_;rintro e wp4 ⟨rfl,h,b⟩;replace HB:=bt_ HB b;replace XA:=XA.l_ b;replace XB:=XB.l_ b;replace H4:=H4.l_ b;clear R7;have R8:=hd_ h;clear h;clear b;clear pM3 pm3;have pM4:=True.intro)))) | fail
    all_goals (
     go_wp2
     go_ret
     exact⟨a7,k9,c7,rfl,R8.out,HB.out⟩))
  ·skip
   obtain rfl:r=d:=hd1.symm
   have XA:=hd_ (HA.out.tail hr1)
   have XB:=hd_ (HM.out.tail_end hr2 rfl)
   go_enter Tryz.func83,Tryz.ntmps83
   go_wp2_with fail
   refine (HU1 _ HB.out).mono ?_
   rintro e w1 ⟨rfl,bw⟩
   replace HB:=bt_ HB bw
   clear bw HU1
   go_wp2_with fail
   refine (HU2 _ HB.out).mono ?_
   rintro e w1 ⟨rfl,bw⟩
   replace HB:=bt_ HB bw
   clear bw HU2
   go_wp2
   have b0:Below w1.heap.size w1 w1.drew:=(Below.refl _ _).drew
   have HBd:=hd_ (ab_ HB.out b0)
   have HC:=hd_ (HADD w1.drew (FA.out.later HBd.out) (FM.out.later HBd.out))
   have ba:=aa_ w1.drew (.cells #[.slice (some aa) r c,.slice (some bb) r r] 33)
   have HB6:=hd_ (ab_ HBd.out ba)
   clear b0 ba HBd HB HADD FA FM
   go_region_with (first
    | (go_at_call 121;refine (HC.out).mono ?_;rintro e w4 ⟨a4,n4,c4,rfl,h4,bw⟩;have HB:=hd_ (ab_ HB6.out bw);have H4:=hd_ h4;clear bw h4 HC HB6))
   all_goals (
    go_wp2
    replace XA:=hd_ (XA.out.later HB.out)
    replace XB:=hd_ (XB.out.later HB.out)
    replace HB:=bt_ HB (dw_ w4)
    replace XA:=XA.l_ (dw_ w4)
    replace XB:=XB.l_ (dw_ w4)
    replace H4:=H4.l_ (dw_ w4)
    first | go_region_with (first
     | (go_at_call 95;(first
       | (have pm1:=pM1;refine (HN2 _ (some bb) 0 XB.out).mono ?_;rintro e wp2 ⟨a6,n6,c6,rfl,h,b⟩;replace HB:=bt_ HB b;replace XA:=XA.l_ b;replace XB:=XB.l_ b;replace H4:=H4.l_ b;replace R5:=R5.l_ b;have R6:=hd_ h;clear h;clear b;clear pM1 pm1;have pM2:=True.intro)
       | (refine (HN1 _ (some (aa.add (r * 3))) (c - r) XA.out).mono ?_;rintro e wp1 ⟨a5,n5,c5,rfl,h,b⟩;replace HB:=bt_ HB b;replace XA:=XA.l_ b;replace XB:=XB.l_ b;replace H4:=H4.l_ b;have R5:=hd_ h;clear h;clear b;have pM1:=True.intro)))
     | (go_at_call 122;(first
       | (have pm2:=pM2;refine (HCC _ a4 n4 c4 a5 n5 c5 a6 n6 c6 H4.out R5.out R6.out).mono ?_;rintro e wp3 ⟨a7,n7,c7,rfl,h,b⟩;replace HB:=bt_ HB b;replace XA:=XA.l_ b;replace XB:=XB.l_ b;replace H4:=H4.l_ b;clear R5;clear R6;have R7:=hd_ h;clear h;clear b;clear pM2 pm2;have pM3:=True.intro)))
     | (go_at_call 109;(first
       | (have pm3:=pM3;refine (HUR _ a7 n7 c7 R7.out).mono ?_;rintro e wp4 ⟨rfl,h,b⟩;replace HB:=bt_ HB b;replace XA:=XA.l_ b;replace XB:=XB.l_ b;replace H4:=H4.l_ b;clear R7;have R8:=hd_ h;clear h;clear b;clear pM3 pm3;have pM4:=True.intro)))) | fail
    all_goals (
     go_wp2
     go_ret
     exact⟨a7,k9,c7,rfl,R8.out,HB.out⟩))
  ·skip
   have XA:=hd_ (HA.out.tail hr1)
   have XB:=hd_ (HM.out.tail hr2)
   go_enter Tryz.func83,Tryz.ntmps83
   go_wp2_with fail
   refine (HU1 _ HB.out).mono ?_
   rintro e w1 ⟨rfl,bw⟩
   replace HB:=bt_ HB bw
   clear bw HU1
   go_wp2_with fail
   refine (HU2 _ HB.out).mono ?_
   rintro e w1 ⟨rfl,bw⟩
   replace HB:=bt_ HB bw
   clear bw HU2
   go_wp2
   have b0:Below w1.heap.size w1 w1.drew:=(Below.refl _ _).drew
   have HBd:=hd_ (ab_ HB.out b0)
   have HC:=hd_ (HADD w1.drew (FA.out.later HBd.out) (FM.out.later HBd.out))
   have ba:=aa_ w1.drew (.cells #[.slice (some aa) r c,.slice (some bb) r d] 33)
   have HB6:=hd_ (ab_ HBd.out ba)
   clear b0 ba HBd HB HADD FA FM
   go_region_with (first
    | (go_at_call 121;refine (HC.out).mono ?_;rintro e w4 ⟨a4,n4,c4,rfl,h4,bw⟩;have HB:=hd_ (ab_ HB6.out bw);have H4:=hd_ h4;clear bw h4 HC HB6))
   all_goals (
    go_wp2
    replace XA:=hd_ (XA.out.later HB.out)
    replace XB:=hd_ (XB.out.later HB.out)
    replace HB:=bt_ HB (dw_ w4)
    replace XA:=XA.l_ (dw_ w4)
    replace XB:=XB.l_ (dw_ w4)
    replace H4:=H4.l_ (dw_ w4)
    first | go_region_with (first
     | (go_at_call 95;(first
       | (have pm1:=pM1;refine (HN2 _ (some (bb.add (r * 3))) (d - r) XB.out).mono ?_;rintro e wp2 ⟨a6,n6,c6,rfl,h,b⟩;replace HB:=bt_ HB b;replace XA:=XA.l_ b;replace XB:=XB.l_ b;replace H4:=H4.l_ b;replace R5:=R5.l_ b;have R6:=hd_ h;clear h;clear b;clear pM1 pm1;have pM2:=True.intro)
       | (refine (HN1 _ (some (aa.add (r * 3))) (c - r) XA.out).mono ?_;rintro e wp1 ⟨a5,n5,c5,rfl,h,b⟩;replace HB:=bt_ HB b;replace XA:=XA.l_ b;replace XB:=XB.l_ b;replace H4:=H4.l_ b;have R5:=hd_ h;clear h;clear b;have pM1:=True.intro)))
     | (go_at_call 122;(first
       | (have pm2:=pM2;refine (HCC _ a4 n4 c4 a5 n5 c5 a6 n6 c6 H4.out R5.out R6.out).mono ?_;rintro e wp3 ⟨a7,n7,c7,rfl,h,b⟩;replace HB:=bt_ HB b;replace XA:=XA.l_ b;replace XB:=XB.l_ b;replace H4:=H4.l_ b;clear R5;clear R6;have R7:=hd_ h;clear h;clear b;clear pM2 pm2;have pM3:=True.intro)))
     | (go_at_call 109;(first
       | (have pm3:=pM3;refine (HUR _ a7 n7 c7 R7.out).mono ?_;rintro e wp4 ⟨rfl,h,b⟩;replace HB:=bt_ HB b;replace XA:=XA.l_ b;replace XB:=XB.l_ b;replace H4:=H4.l_ b;clear R7;have R8:=hd_ h;clear h;clear b;clear pM3 pm3;have pM4:=True.intro)))) | fail
    all_goals (
     go_wp2
     go_ret
     exact⟨a7,k9,c7,rfl,R8.out,HB.out⟩))
theorem poly_sub(a:OA_)(n c:Nat)(L:List Fx)(b:OA_)(m d:Nat)(M:List Fx)(w:World)(h:Fxs w a n c L)(k:Fxs w b m d M)(hn:n≤300)(hm:m≤300)(ht:thin 1000000000 L)(hu:thin 900000000 M):Calls Tryz.prog 78 #[.slice a n c,.slice b m d] w (cw_ (aj_ (psub (fqs L) (fqs M))) w):=by
 have hbd:=h.bound
 have hbd2:=k.bound
 obtain⟨q,hq⟩:∃q:Rat,((-1:Int):Rat)=q:=⟨_,rfl⟩
 have hq1:q = -1:=by rw[←hq];rfl
 have hql:qlen q≤2:=by rw[←hq];exact ci_ (by decide)
 have HO:∀w':World,Calls Tryz.prog 47 #[.int .i64 (-1)] w' (LstQ q w'):=fun w'=>hq▸eg_ (-1) w' (by decide)
 have HS:∀(w':World) (v:Value),Below w.heap.size w w'→Fr w' v q 900000000→Calls Tryz.prog 64 #[v,.slice b m d] w' (cw_ (aj_ (af_ q (fqs M))) w'):=fun w' v hb hv=>k5_ v q b m d M w' hv (k.later hb) hm hu
 have hSL:(aj_ (af_ q (fqs M))).length≤300:=by
  have h1:=bc_ (af_ q (fqs M))
  rw[a6_,aq_,k.len] at h1
  omega
 have hSQ:∀x∈aj_ (af_ q (fqs M)),qlen x≤1000000000:=fun x hx=>Nat.le_trans (et_ (A:=900000001) hql (hu.qs k.oks) x (hr_ hx)) (by decide)
 have HPE:aj_ (padd (fqs L) (aj_ (af_ q (fqs M))))=aj_ (psub (fqs L) (fqs M)):=bj_ (cl_ (peq.refl _) (by rw[hq1];exact ar_ _))
 have HA:∀(w':World) (a':OA_) (n' c':Nat),Below w.heap.size w w'→Rw w' a' n' c' (aj_ (af_ q (fqs M)))→Calls Tryz.prog 83 #[.slice a n c,.slice a' n' c'] w' (cw_ (aj_ (psub (fqs L) (fqs M))) w'):=fun w' a' n' c' hb h9=>by
  obtain⟨X,x1,x2,x3⟩:=h9.thin hSQ
  have h8:=qa_ a n c L a' n' c' X w' (h.later hb) x1 hn (by rw[←h9.len];exact hSL) ht x3
  rwa [x2,HPE] at h8
 generalize aj_ (psub (fqs L) (fqs M))=D at *
 generalize aj_ (af_ q (fqs M))=S at *
 have HL:=hd_ hql
 clear h k ht hu hq hq1 hql hSL hSQ HPE
 go_enter Tryz.func78,Tryz.ntmps78
 go_wp2_with fail
 refine (HO _).mono ?_
 rintro e w1 ⟨a1,n1,c1,b1,m1,d1,rfl,h1,g1,bw⟩
 have ln:n1≤900000000:=Nat.le_trans (Nat.le_of_eq h1.len.symm) (Nat.le_trans (bf_ _) (Nat.le_trans HL.out (by decide)))
 have lm:m1≤900000000:=Nat.le_trans (Nat.le_of_eq g1.len.symm) (Nat.le_trans (bd_ _) (Nat.le_trans HL.out (by decide)))
 have HB:=hd_ bw
 have A1:=hd_ h1
 have D1:=hd_ g1
 clear bw h1 g1 HO
 go_wp2_with fail
 refine (HS _ _ HB.out (Fr.right A1.out D1.out ln lm)).mono ?_
 rintro e w2 ⟨a2,n2,c2,rfl,h2,bw⟩
 replace HB:=bt_ HB bw
 have R2:=hd_ h2
 clear bw h2 HS A1 D1
 go_wp2_with fail
 refine (HA _ a2 n2 c2 HB.out R2.out).mono ?_
 rintro e w3 ⟨a3,n3,c3,rfl,h3,bw⟩
 replace HB:=bt_ HB bw
 have R3:=hd_ h3
 clear bw h3 HA R2
 go_wp2
 go_ret
 exact⟨a3,n3,c3,rfl,R3.out,HB.out⟩
theorem Cop.lit(w:World)(e:TypeId):Cop (w.alloc (.cells #[] e)) w.heap.size e (.slice (some ⟨w.heap.size,0,none⟩) 0 0) []:=⟨⟨World.ownsRow_lit w #[] 0 (Nat.le_refl _) (by decide) rfl,db_ (ao_ w #[] e) (fun u hu=>by simp at hu)⟩,fun x hx=>by simp at hx⟩
theorem fr_clone(aa:Addr)(n c:Nat)(L:List Fx)(w:World)(h:Fxs w (some aa) n c L)(hn:n≤1000):Calls Tryz.prog 118 #[.slice (some aa) n c] w (fun e w'=>∃v,e=.returned v∧Cop w' w.heap.size 44 v L∧Below w.heap.size w w'):=by
 have HK:=hd_ (h.later (aa_ w (.cells #[] 44)))
 have HC:=hd_ (Cop.lit w 44)
 clear h
 have q22:∀(w:World) (a:OA_) (n c n' c':Nat),(binOp .eql 33 (.slice a n c) (.slice none n' c')).run Tryz.prog w=.ok (.bool a.isNone) w:=fun w a n c n' c'=>Lib.run_eql_slice_nil w _ _ a n c n' c' Tryz.underlying33
 obtain⟨i0,hi,hz0,hz1,hz2⟩:=info_parts dn_
 go_enter Tryz.func118,Tryz.ntmps118
 go_wp2_with (at_builtin;refine eu_ _ rfl _ _ 33 rfl w.heap.size 44 i0 Tryz.underlying33 hi hz0 hz1 hz2 _ [] rfl HC.out (some aa) n c L rfl HK.out (by simp;omega) (by rw[aw_];omega) ?_;intro v6 w6 hrow hgrow hbase hcl)
 have HR:=hd_ hrow
 have HB:=hd_ (((aa_ w (.cells #[] 44))).grown hgrow (by rw[aw_];omega) hbase)
 clear hrow hgrow hbase hcl HC HK
 go_wp2
 go_ret
 refine ⟨v6,rfl,?_,HB.out⟩
 simpa using HR.out
theorem cop_drew{w:World}{base:Nat}{e:TypeId}{v:Value}{L:List Fx}(h:Cop w base e v L):Cop w.drew base e v L:=h.later (Below.refl _ _).drew
theorem ro_{w w':World}{r:Option Nat}(h:w.grownBy w' r):w.grownBy w'.drew r:=h.trans ⟨rfl,rfl,rfl,Nat.le_refl _,fun _ _ _=>rfl⟩
def Revd (X L:List Fx) (i:Nat):Prop:=X.length=L.length∧∀t,t < L.length→X.getD t Fx.zero=if t < i∨L.length - i≤t then L.getD (L.length - 1 - t) Fx.zero else L.getD t Fx.zero
theorem Revd.start(L:List Fx):Revd L L 0:=⟨rfl,fun t ht=>by rw[if_neg (by omega)]⟩
theorem qq_{X:List Fx}{i t:Nat}{x:Fx}(hi:i < X.length):(X.set i x).getD t Fx.zero=if t=i then x else X.getD t Fx.zero:=by
 rw[List.getD_eq_getElem?_getD]
 split
 ·rename_i h
  rw[h,List.getElem?_set_self hi];rfl
 ·rw[List.getElem?_set_ne (by omega),←List.getD_eq_getElem?_getD]
theorem Revd.step{X L:List Fx}{i j:Nat}(h:Revd X L i)(hij:i+j+1=L.length)(hlt:i < j):Revd ((X.set i (X.getD j Fx.zero)).set j (X.getD i Fx.zero)) L (i+1):=by
 obtain⟨h1,h2⟩:=h
 refine ⟨by rw[List.length_set,List.length_set];exact h1,fun t ht=>?_⟩
 rw[qq_ (by rw[List.length_set];omega),qq_ (by omega)]
 have hi:=h2 i (by omega)
 have hj:=h2 j (by omega)
 rw[if_neg (by omega)] at hi hj
 by_cases e1:t=j
 ·rw[if_pos e1,if_pos (by omega),hi,e1]
  congr 1
  omega
 ·rw[if_neg e1]
  by_cases e2:t=i
  ·rw[if_pos e2,if_pos (by omega),hj,e2]
   congr 1
   omega
  ·rw[if_neg e2,h2 t ht]
   by_cases e3:t < i∨L.length - i≤t
   ·rw[if_pos e3,if_pos (by omega)]
   ·rw[if_neg e3,if_neg (by omega)]
theorem Revd.done{X L:List Fx}{i:Nat}(h:Revd X L i)(hi:L.length≤i+i+1):X=L.reverse:=by
 obtain⟨h1,h2⟩:=h
 refine List.ext_getElem? fun t=>?_
 rcases Nat.lt_or_ge t L.length with ht | ht
 ·have h3:=h2 t ht
  rw[List.getD_eq_getElem?_getD,List.getElem?_eq_getElem (by omega)] at h3
  rw[List.getElem?_eq_getElem (by omega),List.getElem?_reverse ht]
  have h4:L.getD (L.length - 1 - t) Fx.zero=X[t]'(by omega):=by
   split at h3
   ·exact h3.symm
   ·rw[show L.length - 1 - t=t by omega];exact h3.symm
  rw[←h4,List.getD_eq_getElem?_getD,List.getElem?_eq_getElem (by omega)];rfl
 ·rw[List.getElem?_eq_none (by omega),List.getElem?_eq_none (by rw[List.length_reverse];omega)]
theorem rh_(g n cap base:Nat)(L:List Fx)(w:World)(h:Cop w base 44 (.slice (some ⟨g,0,none⟩) n cap) L)(hL:n=L.length)(hn:n≤1000):Calls Tryz.prog 119 #[.slice (some ⟨g,0,none⟩) n cap] w (fun e w'=>e=.returned (.tuple #[])∧Cop w' base 44 (.slice (some ⟨g,0,none⟩) n cap) L.reverse∧w.grownBy w' (some g)):=by
 have HC:=hd_ h
 have HLn:=hd_ hL
 have HG:Hid (w.grownBy w (some g)):=hd_ ⟨rfl,rfl,rfl,Nat.le_refl _,fun _ _ _=>rfl⟩
 have hcap:n≤cap∧cap≤9223372036854775807:=by
  obtain⟨a9,c9,e9,h9⟩:=h.out
  simp only[Value.slice.injEq] at e9
  have:=h9.bound
  omega
 clear h hL
 go_enter Tryz.func119,Tryz.ntmps119
 go_wp2
 go_loopw [2,3] (fun iv jv wr=>∃(i:Nat) (z:Int) (X:List Fx),iv=.int .i64 (i:Int)∧jv=.int .i64 z∧(i:Int)+z+1=(n:Int)∧i≤n∧Hid (Cop wr base 44 (.slice (some ⟨g,0,none⟩) n cap) X)∧Hid (Revd X L i)∧Hid (w.grownBy wr (some g))) (fun iv _ _=>n - (intOf iv).toNat)
 case atStart=>exact⟨0,(n:Int) - 1,L,rfl,rfl,by omega,by omega,HC,hd_ (Revd.start L),HG⟩
 case round=>
  clear HC HG
  obtain⟨i,z,X,rfl,rfl,hiz,hin,HC,HR,HG⟩:=hrel
  by_cases hlt:(i:Int) < z
  ·obtain⟨j,rfl⟩:∃j:Nat,z=(j:Int):=⟨z.toNat,by omega⟩
   have hjn:j < n:=by omega
   have hXL:X.length=n:=by rw[HR.out.1,HLn.out]
   have HR2:=hd_ (HR.out.step (i:=i) (j:=j) (by rw[←HLn.out];omega) (by omega))
   have hoki:=HC.out.2 _ (d5_ (L:=X) (k:=i) (by omega))
   have hokj:=HC.out.2 _ (d5_ (L:=X) (k:=j) (by omega))
   obtain⟨hP1,hG1⟩:=HC.out.put hXL.symm (i:=i) (by omega) (X.getD j Fx.zero) hokj
   have hokk:=Fx.aside hoki HC.out.clean hG1
   obtain⟨hP2,hG2⟩:=hP1.put (by rw[List.length_set];exact hXL.symm) (i:=j) (by rw[List.length_set];omega) (X.getD i Fx.zero) hokk
   obtain⟨⟨p0,p1,p2⟩,f0,f1,f2⟩:=HC.out.cell hXL.symm (i:=i) (by omega)
   obtain⟨⟨q0,q1,q2⟩,g0,g1,g2⟩:=HC.out.cell hXL.symm (i:=j) (by omega)
   obtain⟨Y,hY⟩:∃Y,(X.set i (X.getD j Fx.zero)).set j (X.getD i Fx.zero)=Y:=⟨_,rfl⟩
   rw[hY] at HR2 hP2
   generalize X.getD i Fx.zero=x at *
   generalize X.getD j Fx.zero=y at *
   have HP2:=hd_ hP2
   have HG2:=hd_ ((HG.out.trans hG1).trans hG2)
   have hji:(j:Int) < (n:Int):=by omega
   have hii:(i:Int) < (n:Int):=by omega
   have hj0:(0:Int)≤(j:Int):=by omega
   clear hP1 hP2 hG1 hG2 hoki hokj hokk hY HC HG HR hXL
   obtain⟨xs,xa,xn,xc,xla,xb,xm,xd,xlb⟩:=x
   obtain⟨ys,ya,yn,yc,yla,yb,ym,yd,ylb⟩:=y
   simp only at p0 p1 p2 q0 q1 q2 HP2 HG2
   have hlt2:i < j:=by omega
   have HP3:Hid (Cop (((((((wr.setCell ⟨g,i * 3,none⟩ (.bool ys)).setCell ⟨g,i * 3+1,none⟩ (.slice ya yn yc)).setCell ⟨g,i * 3+2,none⟩ (.slice yb ym yd)).setCell ⟨g,j * 3,none⟩ (.bool xs)).setCell ⟨g,j * 3+1,none⟩ (.slice xa xn xc)).setCell ⟨g,j * 3+2,none⟩ (.slice xb xm xd))).drew base 44 (.slice (some ⟨g,0,none⟩) n cap) Y):=hd_ (by with_reducible exact cop_drew HP2.out)
   have HG3:Hid (w.grownBy (((((((wr.setCell ⟨g,i * 3,none⟩ (.bool ys)).setCell ⟨g,i * 3+1,none⟩ (.slice ya yn yc)).setCell ⟨g,i * 3+2,none⟩ (.slice yb ym yd)).setCell ⟨g,j * 3,none⟩ (.bool xs)).setCell ⟨g,j * 3+1,none⟩ (.slice xa xn xc)).setCell ⟨g,j * 3+2,none⟩ (.slice xb xm xd))).drew (some g)):=hd_ (by with_reducible exact ro_ HG2.out)
   clear HP2 HG2
   go_wp2
   go_big_region
   clear p0 p1 p2 f0 f1 f2 q0 q1 q2 g0 g1 g2
   generalize (((((((wr.setCell ⟨g,i * 3,none⟩ (.bool ys)).setCell ⟨g,i * 3+1,none⟩ (.slice ya yn yc)).setCell ⟨g,i * 3+2,none⟩ (.slice yb ym yd)).setCell ⟨g,j * 3,none⟩ (.bool xs)).setCell ⟨g,j * 3+1,none⟩ (.slice xa xn xc)).setCell ⟨g,j * 3+2,none⟩ (.slice xb xm xd))).drew=wz at HP3 HG3 ⊢
   go_wp2
   go_roundw
   case rel=>exact⟨i+1,(j:Int) - 1,Y,by go_num,rfl,by omega,by omega,HP3,HR2,HG3⟩
   case measure=>simp[intOf];omega
  ·have HE:Hid (X=L.reverse):=hd_ (HR.out.done (by rw[←HLn.out];omega))
   clear HR
   go_wp2
   go_end0
   refine ⟨rfl,?_,HG.out⟩
   rw[←HE.out]
   exact HC.out
theorem jn_(p:Nat):∀(q:Nat) (f:Nat→Rat),b8_ (p+q) f=b8_ p f+b8_ q (fun j=>f (p+j))
 | 0,f=>by show b8_ p f=b8_ p f+0;grind
 | q+1,f=>by
   show b8_ (p+q) f+f (p+q)=b8_ p f+(b8_ q (fun j=>f (p+j))+f (p+q))
   rw[jn_ p q f];grind
theorem fx_take{L:List Fx}{k j:Nat}(h:j < k):(L.take k).getD j Fx.zero=L.getD j Fx.zero:=by
 rw[List.getD_eq_getElem?_getD,List.getElem?_take,if_pos h,←List.getD_eq_getElem?_getD]
theorem fx_drop(L:List Fx)(k j:Nat):(L.drop k).getD j Fx.zero=L.getD (k+j) Fx.zero:=by
 rw[List.getD_eq_getElem?_getD,List.getElem?_drop,←List.getD_eq_getElem?_getD]
theorem fx_rev{L:List Fx}{j:Nat}(h:j < L.length):L.reverse.getD j Fx.zero=L.getD (L.length - 1 - j) Fx.zero:=by
 rw[List.getD_eq_getElem?_getD,List.getElem?_reverse h,←List.getD_eq_getElem?_getD]
theorem q4_{A B:List Fx}{i lo hi:Nat}(hlo:lo=i+1 - B.length)(hhi:hi=min (i+1) A.length)(hi1:i+1 < A.length+B.length)(hA:0 < A.length)(hB:0 < B.length) :
 rdot (fqs ((A.take hi).drop lo)) (fqs ((B.reverse.take (hi+B.length - (i+1))).drop (lo+B.length - (i+1))))=co (pmul (fqs A) (fqs B)) i:=by
 have hl1:((A.take hi).drop lo).length=hi - lo:=by rw[List.length_drop,List.length_take];omega
 have hl2:((B.reverse.take (hi+B.length - (i+1))).drop (lo+B.length - (i+1))).length=hi - lo:=by rw[List.length_drop,List.length_take,List.length_reverse];omega
 have hlh:lo≤hi:=by omega
 rw[qu_ (by rw[aq_,aq_,hl1,hl2]),aq_,hl1,cq_]
 have e1:b8_ (i+1) (fun s=>co (fqs A) s * co (fqs B) (i - s))=b8_ hi (fun s=>co (fqs A) s * co (fqs B) (i - s)):=gf_ (by omega) fun s h1 h2=>by
  rw[dx_ (l:=fqs A) (by rw[aq_];omega),Rat.zero_mul]
 have e2:b8_ hi (fun s=>co (fqs A) s * co (fqs B) (i - s))=b8_ lo (fun s=>co (fqs A) s * co (fqs B) (i - s))+b8_ (hi - lo) (fun t=>co (fqs A) (lo+t) * co (fqs B) (i - (lo+t))):=by
  have h9:=jn_ lo (hi - lo) (fun s=>co (fqs A) s * co (fqs B) (i - s))
  rwa [show lo+(hi - lo)=hi by omega] at h9
 have e3:b8_ lo (fun s=>co (fqs A) s * co (fqs B) (i - s))=0:=by
  rw[bi_ (g:=fun _=>0) (fun s hs=>by rw[dx_ (l:=fqs B) (by rw[aq_];omega),Rat.mul_zero])]
  exact ef_ _
 rw[e1,e2,e3,Rat.zero_add]
 refine bi_ fun t ht=>?_
 rw[c0_ (by omega),c0_ (by omega),km_ (by omega),km_ (by omega),fx_drop,fx_drop,fx_take (by omega),fx_take (by omega),fx_rev (by omega)]
 congr 2
 rw[show B.length - 1 - (lo+B.length - (i+1)+t)=i - (lo+t) by omega]
theorem in_{T Q:List Rat}(h:peq Q T)(hl:T.length=plen Q):aj_ Q=T:=by
 rw[bj_ h,c5_,List.take_of_length_le]
 show T.length≤plen T
 rw[←am_ h,hl]
 exact Nat.le_refl _
theorem Fxs.window{w:World}{ad:Addr}{n cap:Nat}{L:List Fx}(h:Fxs w (some ad) n cap L){lo hi:Nat}(h1:lo≤hi)(h2:hi≤n):Fxs w (some (ad.add (lo * 3))) (hi - lo) (cap - lo) ((L.take hi).drop lo):=(h.take h2).tail h1
theorem poly_mul(a:OA_)(n c:Nat)(L:List Fx)(b:OA_)(m d:Nat)(M:List Fx)(N K:Nat)(w:World)(h:Fxs w a n c L)(k:Fxs w b m d M)(hn:n≤100)(hm:m≤100)(ht:thin N L)(hu:thin K M)(hb:(n+1) * (N+K+8)≤1900000000):Calls Tryz.prog 75 #[.slice a n c,.slice b m d] w (cw_ (aj_ (pmul (fqs L) (fqs M))) w):=by
 have hbd:=h.bound
 have hbd2:=k.bound
 have hk1:=br_ h
 have hk2:=br_ k
 have hNK:N+K+8≤1900000000:=Nat.le_trans (Nat.le_mul_of_pos_left _ (by omega)) hb
 have HU1:∀w':World,Below w.heap.size w w'→Calls Tryz.prog 109 #[.slice a n c] w' (bo_ (.slice a (plen (fqs L)) c) w'):=fun w' hb=>dm_ a n c L w' (h.later hb) (by omega) (ht.mono (by omega))
 have HU2:∀w':World,Below w.heap.size w w'→Calls Tryz.prog 109 #[.slice b m d] w' (bo_ (.slice b (plen (fqs M)) d) w'):=fun w' hb=>dm_ b m d M w' (k.later hb) (by omega) (hu.mono (by omega))
 have HA:=hd_ (h.take hk1)
 have HM:=hd_ (k.take hk2)
 have TA:=hd_ (c4_ ht (plen (fqs L)))
 have TM:=hd_ (c4_ hu (plen (fqs M)))
 have QA:Hid (fqs (L.take (plen (fqs L)))=aj_ (fqs L)):=hd_ (ei_ L)
 have QM:Hid (fqs (M.take (plen (fqs M)))=aj_ (fqs M)):=hd_ (ei_ M)
 have PL1:plen (fqs (L.take (plen (fqs L))))=plen (fqs L):=by rw[QA.out,am_ (ar_ _)]
 have PM1:plen (fqs (M.take (plen (fqs M))))=plen (fqs M):=by rw[QM.out,am_ (ar_ _)]
 have hE:aj_ (pmul (fqs L) (fqs M))=aj_ (pmul (aj_ (fqs L)) (aj_ (fqs M))):=bj_ (au_ (ar_ _).symm (ar_ _).symm)
 rw[hE,←QA.out,←QM.out]
 clear hE QA QM
 generalize plen (fqs L)=k1 at *
 generalize plen (fqs M)=k2 at *
 generalize L.take k1=L1 at *
 generalize M.take k2=M1 at *
 have hl1:=HA.out.len
 have hl2:=HM.out.len
 have HB:=hd_ (Below.refl w.heap.size w)
 clear h k ht hu
 by_cases h1:k1=0
 ·subst h1
  have HE:Hid (aj_ (pmul (fqs L1) (fqs M1))=[]):=hd_ (by
   rw[List.eq_nil_of_length_eq_zero hl1];rfl)
  rw[HE.out]
  clear PL1 PM1 hl1 hl2 HE
  go_enter Tryz.func75,Tryz.ntmps75
  go_wp2_with fail
  refine (HU1 _ HB.out).mono ?_
  rintro e w1 ⟨rfl,bw⟩
  replace HB:=bt_ HB bw
  clear bw HU1
  go_wp2_with fail
  refine (HU2 _ HB.out).mono ?_
  rintro e w1 ⟨rfl,bw⟩
  replace HB:=bt_ HB bw
  clear bw HU2
  go_wp2
  go_ret
  exact⟨none,0,0,rfl,Rw.nil _,HB.out⟩
 ·by_cases h2:k2=0
  ·subst h2
   have HE:Hid (aj_ (pmul (fqs L1) (fqs M1))=[]):=hd_ (by
    rw[List.eq_nil_of_length_eq_zero hl2]
    exact bj_ (dk_ _))
   have hz1:((k1:Int) == 0)=false:=by simp;omega
   rw[HE.out]
   clear PL1 PM1 hl1 hl2 HE
   go_enter Tryz.func75,Tryz.ntmps75
   go_wp2_with fail
   refine (HU1 _ HB.out).mono ?_
   rintro e w1 ⟨rfl,bw⟩
   replace HB:=bt_ HB bw
   clear bw HU1
   go_wp2_with fail
   refine (HU2 _ HB.out).mono ?_
   rintro e w1 ⟨rfl,bw⟩
   replace HB:=bt_ HB bw
   clear bw HU2
   go_wp2
   go_ret
   exact⟨none,0,0,rfl,Rw.nil _,HB.out⟩
  ·have hp1:0 < k1:=by omega
   have hp2:0 < k2:=by omega
   have hz1:((k1:Int) == 0)=false:=by simp;omega
   have hz2:((k2:Int) == 0)=false:=by simp;omega
   obtain⟨Tn,hTn⟩:∃Tn,k1+k2 - 1=Tn:=⟨_,rfl⟩
   obtain⟨T,hT⟩:∃T,tab Tn (fun i=>co (pmul (fqs L1) (fqs M1)) i)=T:=⟨_,rfl⟩
   have HTL:Hid (T.length=Tn):=hd_ (by rw[←hT,h2_])
   have hpl:plen (pmul (fqs L1) (fqs M1))=Tn:=by rw[cy_ (by omega) (by omega),PL1,PM1,hTn]
   have HPN:Hid (aj_ (pmul (fqs L1) (fqs M1))=T):=hd_ (in_ (fun i=>by
    rw[←hT,co_tab]
    split
    ·rfl
    ·exact bq_ (by omega)) (by rw[HTL.out,hpl]))
   have HTV:Hid (∀i lo hi,i < Tn→lo=i+1 - k2→hi=min (i+1) k1→rdot (fqs ((L1.take hi).drop lo)) (fqs ((M1.reverse.take (hi+k2 - (i+1))).drop (lo+k2 - (i+1))))=T.getD i 0):=hd_ (fun i lo hi hi9 h8 h7=>by
    have h6:=q4_ (A:=L1) (B:=M1) (i:=i) (lo:=lo) (hi:=hi) (by rw[hl2];exact h8) (by rw[hl1];exact h7) (by omega) (by omega) (by omega)
    rw[hl2] at h6
    rw[h6,←hT,tab_at hi9])
   rw[HPN.out]
   have HDOT:∀(w':World) (i lo hi p r:Nat) (a':OA_) (c':Nat) (b':OA_) (d':Nat),i < Tn→lo=i+1 - k2→hi=min (i+1) k1→p=lo+k2 - (i+1)→r=hi+k2 - (i+1)→Fxs w' a' (hi - lo) c' ((L1.take hi).drop lo)→Fxs w' b' (r - p) d' ((M1.reverse.take r).drop p)→Calls Tryz.prog 120 #[.slice a' (hi - lo) c',.slice b' (r - p) d'] w' (fc_ (T.getD i 0) (.bool true) w'):=fun w' i lo hi p r a' c' b' d' h3 h4 h5 h6 h7 h8 h9=>by
    have hlen:r - p=hi - lo:=by omega
    have h10:=pg_ a' (hi - lo) c' _ b' (r - p) d' _ N K w' h8 h9 (by omega) (fun x hx=>TA.out x (List.mem_of_mem_take (List.mem_of_mem_drop hx))) (fun x hx=>TM.out x (List.mem_reverse.1 (List.mem_of_mem_take (List.mem_of_mem_drop hx)))) (hd_ hlen.symm) (by
     have h11:(hi - lo) * (N+K+6)≤n * (N+K+8):=Nat.mul_le_mul (by omega) (by omega)
     rw[Nat.add_mul] at hb
     omega) (by omega)
    have h12:=HTV.out i lo hi h3 h4 h5
    rw[←h6,←h7] at h12
    rwa [h12] at h10
   have HMR:Hid (M1.reverse.length=k2):=hd_ (by rw[List.length_reverse,hl2])
   clear HTV HPN hpl hT PL1 PM1 TA TM hb
   obtain⟨aa,ha⟩:∃aa,a=some aa:=by
    rcases HA.out.2.2.2.2.2 with h9 | ⟨b9,o9,e9,_⟩
    ·omega
    ·exact⟨_,e9⟩
   obtain⟨bb,hbb⟩:∃bb,b=some bb:=by
    rcases HM.out.2.2.2.2.2 with h9 | ⟨b9,o9,e9,_⟩
    ·omega
    ·exact⟨_,e9⟩
   subst ha
   subst hbb
   have HCL:∀w':World,Below w.heap.size w w'→Calls Tryz.prog 118 #[.slice (some bb) k2 d] w' (fun e w''=>∃v,e=.returned v∧Cop w'' w'.heap.size 44 v M1∧Below w'.heap.size w' w''):=fun w' h9=>fr_clone bb k2 d M1 w' (HM.out.later h9) (by omega)
   have HML:Hid (M1.length=k2):=hd_ hl2
   have hTn9:(k1:Int)+(k2:Int) - 1=(Tn:Int):=by omega
   clear hl1 hl2
   obtain⟨i0,hi,hy0,hy1,hy2⟩:=info_parts dn_
   go_enter Tryz.func75,Tryz.ntmps75
   go_wp2_with fail
   refine (HU1 _ HB.out).mono ?_
   rintro e w1 ⟨rfl,bw⟩
   replace HB:=bt_ HB bw
   clear bw HU1
   go_wp2_with fail
   refine (HU2 _ HB.out).mono ?_
   rintro e w1 ⟨rfl,bw⟩
   replace HB:=bt_ HB bw
   clear bw HU2
   go_wp2_with fail
   refine (HCL _ HB.out).mono ?_
   rintro e w2 ⟨v,rfl,h3,bw⟩
   have CP:=hd_ (qv_ h3 HB.out.size)
   replace HB:=bt_ HB bw
   clear bw HCL h3
   obtain⟨g,cap,rfl,hbg,hgl⟩:∃g cap,v=.slice (some ⟨g,0,none⟩) k2 cap∧w.heap.size≤g∧g < w2.heap.size:=by
    have h9:=CP.out.1.1.form (by rw[HML.out];exact hp2)
    rw[HML.out] at h9
    obtain⟨g,cap,h5,h6,h7⟩:=h9
    exact⟨g,cap,h5,h6,h7⟩
   have hcapk:k2≤cap∧cap≤9223372036854775807:=by
    obtain⟨a9,c9,e9,h9⟩:=CP.out.out
    simp only[Value.slice.injEq] at e9
    have:=h9.bound
    omega
   have HRV:=hd_ (rh_ g k2 cap w.heap.size M1 w2 CP.out HML.out.symm (by omega))
   clear CP
   go_wp2_with fail
   refine HRV.out.mono ?_
   rintro e w3 ⟨rfl,h3,hgr⟩
   have HB3:=hd_ (HB.out.grown hgr HB.out.size (fun g' hg'=>by simp at hg';omega))
   have FB:Hid (Fxs w3 (some ⟨g,0,none⟩) k2 cap M1.reverse):=hd_ (by
    obtain⟨a9,c9,e9,h9⟩:=h3.out
    rw[HMR.out] at e9 h9
    simp only[Value.slice.injEq] at e9
    obtain⟨e9,-,e8⟩:=e9
    rw[e9,e8]
    exact h9)
   clear h3 hgr HRV HB HML
   go_wp2_with (at_make;refine b2_ _ rfl _ _ 33 rfl w3.heap.size 44 i0 Tryz.underlying33 hi hy0 hy1 hy2 _ _ _ _ Tn rfl rfl (by omega) (by omega) (by omega) (by simp) ?_;intro wm hmade hgm hszm)
   have HO0:=hd_ (Half.start hmade)
   have HBm:Hid (Below w3.heap.size w3 wm):=hd_ ((Below.refl _ _).grown hgm (Nat.le_refl _) (fun k hk=>by cases hk))
   have HB0:=hd_ (ab_ HB3.out HBm.out)
   have hsz3:=HB3.out.size
   clear hmade hgm HB3
   go_loopw [35] (fun iv wr=>∃i r:Nat,i+r=Tn∧iv=.int .i64 (i:Int)∧Hid (Half wr w3.heap.size 44 (.slice (some ⟨w3.heap.size,0,none⟩) Tn Tn) (T.take i) r)∧Hid (Below w.heap.size w wr)∧Hid (Below w3.heap.size w3 wr)∧w3.heap.size < wr.heap.size) (fun iv _=>Tn - (intOf iv).toNat)
   case atStart=>exact⟨0,Tn,by omega,rfl,HO0,HB0,HBm,by omega⟩
   case round=>
    clear HO0 HB0 HBm
    obtain⟨i,r9,hk,rfl,HO,HB,HBm,hsz⟩:=hrel
    by_cases hlt:i < Tn
    ·have hkT:i < T.length:=by rw[HTL.out];exact hlt
     obtain⟨r9,rfl⟩:∃r',r9=r'+1:=⟨r9 - 1,by omega⟩
     have HT:Hid (T.take (i+1)=T.take i ++ [T.getD i 0]):=hd_ (lb_ hkT)
     obtain⟨lo,hlo⟩:∃lo,lo=i+1 - k2:=⟨_,rfl⟩
     obtain⟨hi9,hhi⟩:∃hi9,hi9=min (i+1) k1:=⟨_,rfl⟩
     obtain⟨p,hp⟩:∃p,p=lo+k2 - (i+1):=⟨_,rfl⟩
     obtain⟨r,hr⟩:∃r,r=hi9+k2 - (i+1):=⟨_,rfl⟩
     obtain⟨sh,hsh⟩:∃sh:Int,(k2:Int) - 1 - (i:Int)=sh:=⟨_,rfl⟩
     have b0:Below wr.heap.size wr wr.drew:=(Below.refl _ _).drew
     have hwin:=((FB.out.later HBm.out).later b0).window (show p≤r by omega) (by omega)
     rw[Go.WideShapes.add_plain,Nat.zero_add] at hwin
     have HD:=hd_ (HDOT wr.drew i lo hi9 p r _ _ _ _ hlt hlo hhi hp hr (((HA.out.later HB.out).later b0).window (show lo≤hi9 by omega) (by omega)) hwin)
     clear hwin
     generalize T.getD i 0=tk at *
     have hmax:max ((i:Int)+1 - (k2:Int)) 0=(lo:Int):=by omega
     have hmin:min ((i:Int)+1) (k1:Int)=(hi9:Int):=by omega
     have hp9:(lo:Int)+sh=(p:Int):=by omega
     have hr9:(hi9:Int)+sh=(r:Int):=by omega
     have hwp:IntKind.i64.wrap (p:Int)=(p:Int):=by rw[IntKind.wrap_i64];omega
     have hwr:IntKind.i64.wrap (r:Int)=(r:Int):=by rw[IntKind.wrap_i64];omega
     have hq1:(lo:Int)≤(hi9:Int):=by omega
     have hq2:(hi9:Int)≤(c:Int):=by omega
     have hq3:(p:Int)≤(r:Int):=by omega
     have hq4:(r:Int)≤(cap:Int):=by omega
     have hq5:¬c=lo:=by omega
     have hq6:¬cap=p:=by omega
     have hki:(i:Int) < (Tn:Int):=by omega
     have hk0:(0:Int)≤(i:Int):=by omega
     clear hlo hhi hp hr
     go_wp2
     replace HB:=bt_ HB b0
     replace HBm:=bt_ HBm b0
     replace HO:=HO.l_ b0
     replace hsz:=Nat.lt_of_lt_of_le hsz b0.size
     clear b0
     first | go_region_with (first
      | (go_at_call 120;refine HD.out.mono ?_;rintro e w4 ⟨a4,n4,c4,b4,m4,d4,rfl,h4,g4,bw⟩;replace HB:=bt_ HB bw;replace HBm:=bt_ HBm bw;replace HO:=HO.l_ bw;have hsz4:=Nat.lt_of_lt_of_le hsz bw.size;have HA4:=hd_ h4;have HB4:=hd_ g4;clear bw hsz h4 g4 HD;unfold frV;obtain⟨⟨p0,p1,p2⟩,f0,f1,f2⟩:=HO.out.cell (k:=i) (by rw[c8_ (Nat.le_of_lt hkT)]))) | fail
     all_goals (
      obtain⟨hst,hgr⟩:=HO.out.stored (k:=i) (by rw[c8_ (Nat.le_of_lt hkT)]) tk a4 n4 c4 b4 m4 d4 HA4.out HB4.out
      rw[←HT.out] at hst
      have HS:=hd_ hst
      have HB5:=hd_ (HB.out.grown hgr HB.out.size (fun g' hg'=>by simp at hg';omega))
      have HBm5:=hd_ (HBm.out.grown hgr HBm.out.size (fun g' hg'=>by simp at hg';omega))
      have hsz5:=Nat.lt_of_lt_of_le hsz4 hgr.size
      clear hst hgr HA4 HB4 HO HB HBm HT p0 p1 p2 f0 f1 f2
      go_wp2
      go_roundw
      case rel=>exact⟨i+1,r9,by omega,by go_num,HS,HB5,HBm5,hsz5⟩
      case measure=>simp[intOf];omega)
    ·obtain rfl:i=Tn:=by omega
     have HF:=hd_ (HO.out.whole HTL.out (by omega))
     obtain⟨a9,c9,e9,h9⟩:=HF.out.out
     rw[HTL.out] at e9 h9
     cases e9
     have HF9:=hd_ h9
     clear HO h9 HF
     go_wp2
     go_ret
     exact⟨_,_,_,rfl,HF9.out,HB.out⟩
end Go.Proofs.YtocebjbjnfammaaGreat
