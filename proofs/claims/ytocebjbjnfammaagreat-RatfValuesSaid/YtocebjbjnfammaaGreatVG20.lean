import Derived.Test.YtocebjbjnfammaaGreatVG19
import Derived.Test.YtocebjbjnfammaaGreatVG5
import Derived.Test.YtocebjbjnfammaaGreatVG17
import Derived.Test.YtocebjbjnfammaaGreatVG3
import Derived.Deep.RegionHeld3
import Derived.Deep.CutRange
import Derived.Test.YtocebjbjnfammaaGreatVG1
set_option maxRecDepth 4096
set_option maxHeartbeats 16000000
namespace Go.Proofs.YtocebjbjnfammaaGreat
open Go.RowKit
def LstDivW (A B:LR_) (I:List Rat→List Rat→Prop) (w:World) (e:Ending) (w':World):Prop:=∃(a:OA_) (n c:Nat) (q:LR_) (b:OA_) (m d:Nat) (r:LR_),e=.returned (.tuple #[.slice a n c,.slice b m d,.bool true])∧Rw w' a n c q∧Rw w' b m d r∧isDiv A B q r∧ai_ q=q∧ai_ r=r∧(∃Q,peq q Q∧I Q r)∧Below w.heap.size w w'
structure DivT (A B:LR_) (I:List Rat→List Rat→Prop) (e nq l0 t:Nat) (Q R:LR_):Prop where
 sum:peq A (padd (pmul Q B) R)
 inv:I Q (ai_ R)
 len:R.length+nq=l0+t
 low:∀j,j < t→co Q j=0
 far:∀j,nq≤j→co Q j=0
theorem DivT.start{A B R0:List Rat}{I:List Rat→List Rat→Prop}{e nq l0 K T:Nat}(hW:DivWay A B K T I)(hR:ai_ A=R0)(hl:R0.length=l0):DivT A B I e nq l0 nq [] R0 where
 sum:=fun i=>by rw[a4_,pmul,d3_,←hR,au_];grind
 inv:=by rw[←hR,a9_];exact hW.start
 len:=by rw[hl]
 low:=fun _ _=>rfl
 far:=fun _ _=>rfl
theorem DivT.step{A B Q R W S P:List Rat}{I:List Rat→List Rat→Prop}{e nq l0 i K T:Nat}{c:Rat}(hW:DivWay A B K T I)(hB:ai_ B=B)(hBl:B.length=e+1)(hnq:nq+e=l0∨nq=0)(hi:i < nq)(h:DivT A B I e nq l0 (i+1) Q R)(hc:c=R.getD (i+e) 0 / B.getD e 0)
 (hw:W=(R.take (i+e)).drop i) (hs:S=ag_ c (B.take e)) (hp:P=radd W (ag_ (-1) S)):R.length=i+e+1∧W.length=e∧S.length=e∧P.length=e∧(∃Q',DivT A B I e nq l0 i Q' (R.take i ++ P)∧co Q' i=c∧∀j,j≠i→co Q' j=co Q j):=by
 have hl:=h.len
 have hRl:R.length=i+e+1:=by omega
 have hWl:W.length=e:=by rw[hw,List.length_drop,List.length_take];omega
 have hSl:S.length=e:=by rw[hs,a5_,List.length_take];omega
 have hPl:P.length=e:=by rw[hp,c5_ _ _ (by rw[a5_];omega)];exact hWl
 have hBn:B.getD e 0≠0:=by
  have h9:=e8_ hB (by omega)
  rwa [hBl,show e+1 - 1=e by omega] at h9
 have hcB:c * B.getD e 0=R.getD (i+e) 0:=by rw[hc];exact Rat.div_mul_cancel hBn
 have hti:(R.take i).length=i:=by rw[List.length_take];omega
 have hpe:peq (R.take i ++ P) (psub R (pmul (shot i c) B)):=fun j=>by
  rw[kl_,hti,dj_,c3_]
  by_cases h1:j < i
  ·rw[if_pos h1,if_neg (by omega),gu_,if_pos h1];grind
  ·rw[if_neg h1,if_pos (by omega),hp,od_ (by rw[a5_];omega),ah_,hs,ah_,hw,oh_,show i+(j - i)=j by omega,gu_,gu_]
   by_cases h2:j < i+e
   ·rw[if_pos h2,if_pos (by omega)];grind
   ·rw[if_neg h2,if_neg (by omega)]
    by_cases h3:j=i+e
    ·have h4:co R j=R.getD (i+e) 0:=by rw[h3];rfl
     have h5:co B (j - i)=B.getD e 0:=by rw[show j - i=e by omega];rfl
     rw[h4,h5,←hcB];grind
    ·rw[dv_ (l:=R) (by omega),dv_ (l:=B) (by omega)];grind
 refine ⟨hRl,hWl,hSl,hPl,?_⟩
 have hsum:∀Q',peq Q' (padd Q (shot i c))→peq A (padd (pmul Q' B) (R.take i ++ P)):=fun Q' hQ j=>by
  rw[h.sum j,a4_,a4_,hpe j,dj_,(ax_ hQ (peq.refl B)) j,(ef_ _ _ _) j,a4_];grind
 have hlen:(R.take i ++ P).length+nq=l0+i:=by rw[List.length_append,hti,hPl];omega
 by_cases hz:R.getD (i+e) 0=0
 ·have hc0:c=0:=by rw[hc,hz,Rat.div_def,Rat.zero_mul]
  have hQ:peq Q (padd Q (shot i c)):=fun j=>by
   rw[a4_,eh_,hc0]
   split <;> grind
  refine ⟨Q,⟨hsum Q hQ,?_,hlen,fun j hj=>h.low j (by omega),h.far⟩,by rw[h.low i (by omega),hc0],fun _ _=>rfl⟩
  have h6:ai_ (R.take i ++ P)=ai_ R:=bn_ (hpe.trans fun j=>by
   rw[dj_,c3_,hc0]
   split <;> grind)
  rw[h6]
  exact h.inv
 ·have hRn:ai_ R=R:=by
   have h6:plen R=R.length:=by
    have h7:=hy_ (a:=R) (n:=i+e) hz
    have h8:=a6_ R
    omega
   rw[db_]
   exact List.take_of_length_le (by show R.length≤plen R;omega)
  have hinv:=h.inv
  rw[hRn] at hinv
  have h9:=hW.step (Q':=ai_ (padd Q (shot i c))) (X:=pmul (shot i c) B) (R':=ai_ (R.take i ++ P)) hinv hRn (by omega) (c:=c) (by rw[hRl,hBl,show i+e+1 - 1=i+e by omega,show e+1 - 1=e by omega];exact hc) (by rw[hRl,hBl,show i+e+1 - (e+1)=i by omega];exact au_ _) (by rw[hRl,hBl,show i+e+1 - (e+1)=i by omega];exact peq.refl _) ((au_ _).trans hpe) (a9_ _)
  refine ⟨ai_ (padd Q (shot i c)),⟨hsum _ (au_ _),h9,hlen,fun j hj=>?_,fun j hj=>?_⟩,?_,fun j hj=>?_⟩
  ·rw[au_,a4_,eh_,if_neg (by omega),h.low j (by omega)];grind
  ·rw[au_,a4_,eh_,if_neg (by omega),h.far j hj];grind
  ·rw[au_,a4_,eh_,if_pos rfl,h.low i (by omega)];grind
  ·rw[au_,a4_,eh_,if_neg hj];grind
theorem DivT.room{A B Q R:List Rat}{I:List Rat→List Rat→Prop}{e nq l0 i K T:Nat}(hW:DivWay A B K T I)(hBl:B.length=e+1)(hKT:K+6≤T)(h:DivT A B I e nq l0 i Q R):(∀q∈R,qlen q≤T)∧(R.length=i+e→0 < i→qlen (R.getD (i - 1+e) 0 / B.getD e 0)+K+5≤T):=by
 have h1:=(hW.room h.inv).1
 have h2:∀q∈R,qlen q≤T:=b7_ fun j=>by
  rw[←ev_]
  exact c0_ (by omega) h1 j
 refine ⟨h2,fun hl hi=>?_⟩
 by_cases hz:R.getD (i - 1+e) 0=0
 ·rw[hz,Rat.div_def,Rat.zero_mul,c9_];omega
 ·have hRn:ai_ R=R:=by
   have h6:plen R=R.length:=by
    have h7:=hy_ (a:=R) (n:=i - 1+e) hz
    have h8:=a6_ R
    omega
   rw[db_]
   exact List.take_of_length_le (by show R.length≤plen R;omega)
  have hinv:=h.inv
  rw[hRn] at hinv
  have h9:=hW.top hinv hRn (by omega)
  rwa [hl,hBl,show i+e - 1=i - 1+e by omega,show e+1 - 1=e by omega] at h9
def Filled (LQ:List Fx) (Q:LR_) (t:Nat):Prop:=∀j,t≤j→j < LQ.length→(LQ.getD j Fx.zero).right∧(LQ.getD j Fx.zero).q=co Q j
theorem Filled.step{LQ:List Fx}{Q Q':List Rat}{i:Nat}(h:Filled LQ Q (i+1))(hi:i < LQ.length)(h1:∀j,j≠i→co Q' j=co Q j)(a:OA_)(n c:Nat)(b:OA_)(m d:Nat):Filled (LQ.set i (rx (co Q' i) a n c b m d)) Q' i:=fun j hj hl=>by
 rw[List.length_set] at hl
 rw[qa_ hi]
 split
 ·rename_i e
  rw[e]
  exact⟨de_ ..,rx_q ..⟩
 ·rename_i e
  rw[h1 j e]
  exact h j (by omega) hl
theorem Filled.done{LQ:List Fx}{Q:List Rat}(h:Filled LQ Q 0)(hf:∀j,LQ.length≤j→co Q j=0):(∀x∈LQ,x.right)∧peq (fqs LQ) Q:=by
 refine ⟨fun x hx=>?_,fun j=>?_⟩
 ·obtain⟨i,hi,rfl⟩:=List.getElem_of_mem hx
  have h1:=(h i (by omega) hi).1
  rwa [List.getD_eq_getElem?_getD,List.getElem?_eq_getElem hi] at h1
 ·rcases Nat.lt_or_ge j LQ.length with h1 | h1
  ·rw[kz_ h1];exact (h j (by omega) h1).2
  ·rw[dv_ (by rw[ap_];exact h1),hf j h1]
theorem DivT.over{A B Q R Y:List Rat}{I:List Rat→List Rat→Prop}{e nq l0:Nat}(hB:ai_ B=B)(hBl:B.length=e+1)(hA:plen A=l0)(hnq:l0 - e=nq)(h:DivT A B I e nq l0 0 Q R)(hY:peq Y Q)(hYl:Y.length=nq):isDiv A B Y (ai_ R)∧ai_ Y=Y∧I Q (ai_ R):=by
 have hl:=h.len
 have hd:isDiv A B Y (ai_ R):=⟨fun j=>by rw[h.sum j,a4_,a4_,au_,(ax_ hY (peq.refl B)) j],by
  rw[am_ (au_ R),a1_ hB,hBl]
  have:=a6_ R
  omega⟩
 refine ⟨hd,?_,h.inv⟩
 by_cases h0:nq=0
 ·rw[List.eq_nil_of_length_eq_zero (hYl.trans h0)];rfl
 ·have h1:=je_ hd (by rw[a1_ hB];omega)
  rw[a1_ hB,hA,hBl] at h1
  rw[db_]
  exact List.take_of_length_le (by show Y.length≤plen Y;omega)
theorem j9_(a:OA_)(n c:Nat)(L:List Fx)(b:OA_)(m d:Nat)(M:List Fx)(K T:Nat)(I:List Rat→List Rat→Prop)(w:World)(h:Fxs w a n c L)(k:Fxs w b m d M)(hn:n≤300)(hm:m≤300)(ht:thin 2000000000 L)(hu:thin 2000000000 M)
 (hK:∀q∈ai_ (fqs M),qlen q≤K) (h0:plen (fqs M)≠0) (hW:DivWay (fqs L) (ai_ (fqs M)) K T I) (hT:T≤2000000000) (hKT:K+6≤T):Calls Tryz.prog 107 #[.slice a n c,.slice b m d] w (LstDivW (fqs L) (ai_ (fqs M)) I w):=by
 have hbd2:=k.bound
 have hk2:=bp_ k
 have HU:Hid (Calls Tryz.prog 109 #[.slice b m d] w (bg_ (.slice b (plen (fqs M)) d) w)):=hd_ (dh_ b m d M w k (by omega) (hu.mono (by decide)))
 have HM:=hd_ (k.take hk2)
 have TM:=hd_ (c2_ hu (plen (fqs M)))
 have QM:fqs (M.take (plen (fqs M)))=ai_ (fqs M):=ed_ M
 obtain⟨B,hB⟩:∃B,ai_ (fqs M)=B:=⟨_,rfl⟩
 have HBN:Hid (ai_ B=B):=hd_ (by rw[←hB];exact a9_ _)
 have hBl:B.length=plen (fqs M):=by rw[←hB];rfl
 rw[hB] at QM hK hW ⊢
 obtain⟨k2,hke⟩:∃k2,plen (fqs M)=k2:=⟨_,rfl⟩
 obtain⟨M1,hM1⟩:∃M1,M.take k2=M1:=⟨_,rfl⟩
 simp only[hke,hM1] at HU HM TM QM hk2 hBl h0
 obtain⟨e,he⟩:∃e,k2=e+1:=⟨k2 - 1,by omega⟩
 subst he
 have HBL:=hd_ hBl
 have HKB:=hd_ hK
 have HW:=hd_ hW
 have HQM:=hd_ QM
 have HML:=hd_ HM.out.len
 obtain⟨bb,hbb⟩:∃bb,b=some bb:=by
  rcases HM.out.2.2.2.2.2 with h9 | ⟨b9,o9,e9,_⟩
  ·omega
  ·exact⟨_,e9⟩
 subst hbb
 have HN:∀w':World,Below w.heap.size w w'→Calls Tryz.prog 95 #[.slice a n c] w' (LstRow 44 (ai_ (fqs L)) w'):=fun w' hb=>g9_ a n c L w' (h.later hb) hn (ht.mono (by decide))
 have hl0:plen (fqs L)≤n:=bp_ h
 obtain⟨R0,hR0⟩:∃R0,ai_ (fqs L)=R0:=⟨_,rfl⟩
 obtain⟨l0,hl0e⟩:∃l0,plen (fqs L)=l0:=⟨_,rfl⟩
 have hR0l:R0.length=l0:=by rw[←hR0,←hl0e];rfl
 obtain⟨nq,hnq⟩:∃nq,l0 - e=nq:=⟨_,rfl⟩
 have HD0:Hid (DivT (fqs L) B I e nq l0 nq [] R0):=hd_ (DivT.start hW hR0 hR0l)
 have HLA:=hd_ hl0e
 have HR0L:=hd_ hR0l
 rw[hR0] at HN
 rw[hl0e] at hl0
 clear h k ht hu hK h0 hW QM hB hke hM1 hBl hR0 hl0e hR0l
 generalize fqs L=A at *
 have hmax:max ((l0:Int) - (e:Int)) 0=(nq:Int):=by omega
 have hk0:(((e+1:Nat):Int) == 0)=false:=by simp;omega
 have hke:((e+1:Nat):Int) - 1=(e:Int):=by omega
 have HB:=hd_ (Below.refl w.heap.size w)
 have hed:e < d:=by omega
 obtain⟨i0,hi,hy0,hy1,hy2⟩:=info_parts du_
 go_enter Tryz.func107,Tryz.ntmps107
 go_wp2_with fail
 refine HU.out.mono ?_
 rintro ed w1 ⟨rfl,bw⟩
 replace HB:=bt_ HB bw
 clear bw HU
 go_wp2_with fail
 refine (HN _ HB.out).mono ?_
 rintro ed w2 ⟨rv,rfl,h3,bw⟩
 have RR:=hd_ (iv_ h3 HB.out.size)
 replace HB:=bt_ HB bw
 clear bw HN h3
 obtain⟨ra,rc,rfl,-⟩:∃ra rc,rv=.slice ra l0 rc∧True:=by
  obtain⟨a9,c9,e9,-⟩:=RR.out.out
  rw[HR0L.out] at e9
  exact⟨a9,c9,e9,trivial⟩
 have hblk:=RR.out.block
 go_wp2_with (at_make;refine ca_ _ rfl _ _ 33 rfl w2.heap.size 44 i0 Tryz.underlying33 hi hy0 hy1 hy2 _ _ _ _ nq rfl rfl (by omega) (by omega) (by omega) (by simp) ?_;intro wm hmade hgm hszm)
 have HO0:=hd_ (p0_ hmade.cop HB.out.size)
 have hbm:Below w2.heap.size w2 wm:=(Below.refl _ _).grown hgm (Nat.le_refl _) (fun k hk=>by cases hk)
 have RR0:=RR.l_ hbm
 have HB0:=hd_ (ab_ HB.out hbm)
 have hsz2:=HB.out.size
 have HNE:Hid (∀g,(Value.slice ra l0 rc).ownBlock=some g→w.heap.size≤g∧g≠w2.heap.size):=hd_ (fun g hg=>by have:=hblk g hg;omega)
 clear hmade hgm hbm RR HB hblk
 have hnq1:(nq:Int) - 1 < (nq:Int):=by omega
 go_loopw [5,8] (fun rv iv wr=>∃(t:Nat) (Q R:LR_) (LQ:List Fx) (ra:OA_) (rc:Nat),t≤nq∧iv=.int .i64 ((t:Int) - 1)∧rv=.slice ra R.length rc∧Hid (DivT A B I e nq l0 t Q R)∧Hid (Row wr w.heap.size 44 (.slice ra R.length rc) R)∧Hid (∀g,(Value.slice ra R.length rc).ownBlock=some g→w.heap.size≤g∧g≠w2.heap.size)∧Hid (LQ.length=nq)∧Hid (Filled LQ Q t)∧Hid (Cop wr w.heap.size 44 (.slice (some ⟨w2.heap.size,0,none⟩) nq nq) LQ)∧Hid (Below w.heap.size w wr)∧w2.heap.size < wr.heap.size) (fun _ iv _=>(intOf iv+1).toNat)
 case atStart=>exact⟨nq,[],R0,List.replicate nq Fx.zero,ra,rc,Nat.le_refl _,rfl,by rw[HR0L.out],HD0,by rw[HR0L.out];exact RR0,by rw[HR0L.out];exact HNE,hd_ List.length_replicate,hd_ (fun j h1 h2=>by rw[List.length_replicate] at h2;omega),HO0,HB0,by omega⟩
 case round=>
  clear HO0 HB0 RR0 HD0 HNE HR0L
  obtain⟨t,Q,R,LQ,ra,rc,htq,rfl,rfl,HD,HR,HNE,HLQ,HF,HO,HB,hsz⟩:=hrel
  by_cases hlt:0 < t
  ·obtain⟨i,rfl⟩:∃i,t=i+1:=⟨t - 1,by omega⟩
   have hnqe:nq+e=l0:=by omega
   obtain⟨hRm,hct⟩:=HD.out.room HW.out HBL.out hKT
   have hRl:R.length=i+e+1:=by have:=HD.out.len;omega
   have hct2:=hct (by omega) (by omega)
   rw[show i+1 - 1+e=i+e by omega] at hct2
   obtain⟨cq,hcq⟩:∃cq,R.getD (i+e) 0 / B.getD e 0=cq:=⟨_,rfl⟩
   obtain⟨W,hWd⟩:∃W,(R.take (i+e)).drop i=W:=⟨_,rfl⟩
   obtain⟨S,hSd⟩:∃S,ag_ cq (B.take e)=S:=⟨_,rfl⟩
   obtain⟨Pt,hPd⟩:∃Pt,radd W (ag_ (-1) S)=Pt:=⟨_,rfl⟩
   rw[hcq] at hct2
   obtain⟨-,hWl,hSl,hPl,Q',hD',hQi,hQo⟩:=HD.out.step HW.out HBN.out HBL.out (.inl hnqe) (by omega) hcq.symm hWd.symm hSd.symm hPd.symm
   have HF':Hid (∀(a1:OA_) (n1 c1:Nat) (b1:OA_) (m1 d1:Nat),Filled (LQ.set i (rx cq a1 n1 c1 b1 m1 d1)) Q' i):=hd_ (fun a1 n1 c1 b1 m1 d1=>by
    have h9:=HF.out.step (Q':=Q') (by rw[HLQ.out];omega) hQo a1 n1 c1 b1 m1 d1
    rwa [hQi] at h9)
   have HD':=hd_ hD'
   have hBt:B.getD e 0≠0:=by
    have h9:=e8_ HBN.out (by rw[HBL.out];omega)
    rwa [HBL.out,show e+1 - 1=e by omega] at h9
   have hBe:B.getD e 0=(M1.getD e Fx.zero).q:=by
    have h9:=cu_ (L:=M1) (k:=e) (by rw[HML.out];omega)
    rwa [HQM.out] at h9
   obtain⟨g,hra,hgb,hgw⟩:∃g,ra=some ⟨g,0,none⟩∧w.heap.size≤g∧g < wr.heap.size:=by
    obtain⟨g,cap,h5,h6,h7⟩:=HR.out.form (by omega)
    simp only[Value.slice.injEq] at h5
    exact⟨g,h5.1,h6,h7⟩
   subst hra
   have hgne:g≠w2.heap.size:=(HNE.out g rfl).2
   have hcap:R.length≤rc∧rc≤9223372036854775807:=by
    obtain⟨a9,c9,e9,h9⟩:=HR.out.out
    simp only[Value.slice.injEq] at e9
    have:=h9.bound
    omega
   have hRw:Rw wr (some ⟨g,0,none⟩) R.length rc R:=by
    obtain⟨a9,c9,e9,h9⟩:=HR.out.out
    simp only[Value.slice.injEq] at e9
    obtain⟨e9,-,e8⟩:=e9
    rw[e9,e8]
    exact h9
   have HSC:∀(w':World) (v:Value),Fr w' v cq 2097152000→Below w.heap.size w w'→Calls Tryz.prog 110 #[v,.slice (some bb) e d] w' (ds_ S w'):=fun w' v h1 h2=>by
    have h9:=ga_ v cq (some bb) e d (M1.take e) w' h1 ((HM.out.later h2).take (by omega)) (by omega) (c2_ (TM.out.mono (by decide)) e)
    rwa [hf_,HQM.out,hSd] at h9
   have hSq:∀q∈S,qlen q≤T:=fun q hq=>by
    rw[←hSd] at hq
    have h9:=fn_ (Nat.le_refl (qlen cq)) (fun x hx=>HKB.out x (List.mem_of_mem_take hx)) q hq
    omega
   have hWq:∀q∈W,qlen q≤T:=fun q hq=>by
    rw[←hWd] at hq
    exact hRm q (List.mem_of_mem_take (List.mem_of_mem_drop hq))
   have HSB:∀(w':World) (a':OA_) (c':Nat) (b':OA_) (n' d':Nat),Rw w' a' (i+e - i) c' W→Rw w' b' n' d' S→Calls Tryz.prog 142 #[.slice a' (i+e - i) c',.slice b' n' d'] w' (qg_ Pt (.bool true) w'):=fun w' a' c' b' n' d' h1 h2=>by
    obtain⟨X,x1,x2,x3⟩:=h1.thin hWq
    obtain⟨Y,y1,y2,y3⟩:=h2.thin hSq
    have h9:=o2_ a' _ c' X b' n' d' Y w' x1 y1 (by omega) (x3.mono (by omega)) (y3.mono (by omega)) (hd_ (by have:=h2.len;omega))
    rwa [x2,y2,hPd] at h9
   obtain⟨rt,hrt⟩:∃x,R.getD (i+e) 0=x:=⟨_,rfl⟩
   obtain⟨b8,off8,e8,a3,n3,c3,b3,m3,d3,hea,hA,hDn⟩:=hRw.at (j:=i+e) (by omega)
   simp only[Option.some.injEq,Addr.mk.injEq,and_true] at e8
   obtain⟨rfl,rfl⟩:=e8
   rw[Nat.zero_add] at hea
   have hlr:=hRm _ (l6_ (L:=R) (k:=i+e) (by omega))
   rw[hrt] at hea hA hDn hlr hcq
   obtain⟨bc,off2,hbe,f0,f1,f2,hok⟩:=(HM.out.later HB.out).at (j:=e) (by omega)
   have hthb:=TM.out _ (d8_ (L:=M1) (k:=e) (by rw[HML.out];omega))
   rw[hBe] at hcq hBt
   generalize M1.getD e Fx.zero=y at *
   obtain⟨ys,ya,yn,yc,yla,yb,ym,yd,ylb⟩:=y
   simp only at f0 f1 f2 hthb
   obtain⟨hok1,hok2⟩:=hok
   obtain⟨hyn,hym⟩:=hthb
   simp only at hok1 hok2 hyn hym
   simp only[Option.some.injEq] at hbe
   subst hbe
   have HQU:Hid (∀w':World,Below wr.heap.size wr w'→Calls Tryz.prog 63 #[.agg #[.bool (zneg rt.num),.slice a3 n3 c3,.slice b3 m3 d3],.agg #[.bool ys,.slice ya yn yc,.slice yb ym yd]] w' (di_ cq (.bool true) w')):=hd_ (fun w' h9=>by
    have h8:=fracSaid.quo (frV (zneg rt.num) a3 n3 c3 b3 m3 d3) (frV ys ya yn yc yb ym yd) rt (qval ys (val yla) (val ylb)) w' (Fr.right (hA.later h9) (hDn.later h9) (by rw[←hA.len];exact Nat.le_trans (bd_ _) (by omega)) (by rw[←hDn.len];exact Nat.le_trans (bc_ _) (by omega))) (Fr.of (hok1.later h9) (hok2.later h9) (by omega) (by omega) rfl)
    have h7:decide (qval ys (val yla) (val ylb)≠0)=true:=decide_eq_true hBt
    rw[h7,show rt / qval ys (val yla) (val ylb)=cq from hcq] at h8
    exact h8)
   have HEA:=hd_ hea
   have HEB:=hd_ (show wr.cell? ⟨bc,off2+e * 3,none⟩=some (.bool ys)∧wr.cell? ⟨bc,off2+e * 3+1,none⟩=some (.slice ya yn yc)∧wr.cell? ⟨bc,off2+e * 3+2,none⟩=some (.slice yb ym yd) from ⟨f0,f1,f2⟩)
   have HCQ:Hid (qlen cq≤2097152000):=hd_ (by omega)
   have HWD:=hd_ hWd
   have HRLn:=hd_ hRl
   have HPL:=hd_ hPl
   have HWL:=hd_ hWl
   obtain⟨j,hj⟩:∃j,i+e=j:=⟨_,rfl⟩
   rw[hj] at HSB HEA
   have hRj:R.length=j+1:=by omega
   have HJ:=hd_ hj
   clear hcq hSd hPd hct hct2 hRm hWl hSl hPl hD' hQi hQo hBt hBe hRw hrt hea hA hDn hlr f0 f1 f2 hok1 hok2 hSq hWq HD HF hRl hWd
   have hij:(i:Int)+(e:Int)=(j:Int):=by omega
   have hwj:IntKind.i64.wrap (j:Int)=(j:Int):=by rw[IntKind.wrap_i64];omega
   have hii:((i+1:Nat):Int) - 1=(i:Int):=by omega
   have hig:(0:Int)≤(i:Int):=by omega
   have hin:(i:Int) < (nq:Int):=by omega
   have hjr:(j:Int) < ((j+1:Nat):Int):=by omega
   have heb:(e:Int) < ((e+1:Nat):Int):=by omega
   have hq1:(i:Int)≤(j:Int):=by omega
   have hq2:(j:Int)≤(rc:Int):=by omega
   have hq3:(e:Int)≤(d:Int):=by omega
   have hq4:(i:Int)≤(rc:Int):=by omega
   have hq5:¬rc=i:=by omega
   rw[hRj] at HR ⊢
   clear hRj hj hcap
   rw[hii]
   clear hii
   go_upto_region 10 with fail
   go_cut [34] from 35 to 50 (fun _ wx=>∃(a4:OA_) (n4 c4:Nat) (b4:OA_) (m4 d4:Nat),Hid (Cop wx w.heap.size 44 (.slice (some ⟨w2.heap.size,0,none⟩) nq nq) (LQ.set i (rx cq a4 n4 c4 b4 m4 d4)))∧Hid (Row wx w.heap.size 44 (.slice (some ⟨g,0,none⟩) (j+1) rc) R)∧Hid (Wd wx a4 n4 c4 (dg cq.num.natAbs))∧Hid (Wd wx b4 m4 d4 (dg cq.den))∧Hid (Below w.heap.size w wx)∧w2.heap.size < wx.heap.size)
   case first=>
    obtain⟨ea0,ea1,ea2⟩:=ar_ HEA.out (Below.refl wr.heap.size wr)
    obtain⟨eb0,eb1,eb2⟩:=ar_ HEB.out (Below.refl wr.heap.size wr)
    go_wp2
    have b0:Below wr.heap.size wr wr.drew:=(Below.refl _ _).drew
    have HBd:=hd_ (ab_ HB.out b0)
    have HOd:=HO.l_ b0
    have HRd:=HR.l_ b0
    have HQUd:=hd_ (HQU.out _ b0)
    have hszd:=Nat.lt_of_lt_of_le hsz b0.size
    clear ea0 ea1 ea2 eb0 eb1 eb2 HB HO HR HQU hsz
    obtain⟨ea0,ea1,ea2⟩:=ar_ HEA.out b0
    obtain⟨eb0,eb1,eb2⟩:=ar_ HEB.out b0
    clear b0
    first | go_region_with (first
     | (go_at_call 63;refine HQUd.out.mono ?_;rintro ed w4 ⟨a4,n4,c4,b4,m4,d4,rfl,h4,g4,bw⟩;have HB4:=hd_ (ab_ HBd.out bw);have HO4:=HOd.l_ bw;have HR4:=HRd.l_ bw;have hsz4:=Nat.lt_of_lt_of_le hszd bw.size;have CA4:=hd_ h4;have CD4:=hd_ g4;clear bw h4 g4 HBd HOd HRd HQUd hszd ea0 ea1 ea2 eb0 eb1 eb2;unfold frV;obtain⟨⟨p0,p1,p2⟩,f0,f1,f2⟩:=HO4.out.cell HLQ.out.symm (i:=i) (by rw[HLQ.out];omega))) | fail
    all_goals (
     obtain⟨hst,hgr⟩:=HO4.out.stored HLQ.out.symm (i:=i) (by rw[HLQ.out];omega) cq a4 n4 c4 b4 m4 d4 CA4.out CD4.out
     have HO5:=hd_ hst
     have HB5:=hd_ (HB4.out.grown hgr HB4.out.size (fun g' hg'=>by simp at hg';omega))
     have HR5:=hd_ (HR4.out.beside (u:=.slice (some ⟨w2.heap.size,0,none⟩) nq nq) HO4.out.clean hgr (.inr (fun e9=>by simp only[Value.ownBlock,Option.some.injEq] at e9;exact hgne e9)))
     have CA5:=hd_ (CA4.out.aside HO4.out.clean hgr)
     have CD5:=hd_ (CD4.out.aside HO4.out.clean hgr)
     have hsz5:=Nat.lt_of_lt_of_le hsz4 hgr.size
     clear hst hgr HO4 HB4 HR4 CA4 CD4 hsz4 p0 p1 p2 f0 f1 f2
     go_wp2
     go_meet
     exact⟨a4,n4,c4,b4,m4,d4,HO5,HR5,CA5,CD5,HB5,hsz5⟩)
   case rest=>
    obtain⟨a4,n4,c4,b4,m4,d4,HO5,HR5,CA5,CD5,HB5,hsz5⟩:=hcut
    have HLQ2:Hid ((LQ.set i (rx cq a4 n4 c4 b4 m4 d4)).length=nq):=hd_ (by rw[List.length_set];exact HLQ.out)
    have HF2:=hd_ (HF'.out a4 n4 c4 b4 m4 d4)
    have HGX:Hid ((LQ.set i (rx cq a4 n4 c4 b4 m4 d4)).getD i Fx.zero=rx cq a4 n4 c4 b4 m4 d4):=hd_ (by rw[qa_ (by rw[HLQ.out];omega),if_pos rfl])
    clear HLQ HF' HEA HEB HB HO HR HQU hsz
    generalize LQ.set i (rx cq a4 n4 c4 b4 m4 d4)=LQ2 at *
    have hcl:=HO5.out.cell HLQ2.out.symm (i:=i) (by rw[HLQ2.out];omega)
    rw[HGX.out] at hcl
    obtain⟨hcl,-⟩:=hcl
    have HEC:=hd_ (show wc.cell? ⟨w2.heap.size,i * 3,none⟩=some (.bool (zneg cq.num))∧wc.cell? ⟨w2.heap.size,i * 3+1,none⟩=some (.slice a4 n4 c4)∧wc.cell? ⟨w2.heap.size,i * 3+2,none⟩=some (.slice b4 m4 d4) from hcl)
    clear hcl HGX
    obtain⟨p0,p1,p2⟩:=ar_ HEC.out (Below.refl wc.heap.size wc)
    go_wp2
    have b0:Below wc.heap.size wc wc.drew:=(Below.refl _ _).drew
    have HBd:=hd_ (ab_ HB5.out b0)
    have HOd:=HO5.l_ b0
    have HRd:=HR5.l_ b0
    have hszd:=Nat.lt_of_lt_of_le hsz5 b0.size
    have HSCd:=hd_ (HSC wc.drew (frV (zneg cq.num) a4 n4 c4 b4 m4 d4) (Fr.right (CA5.out.later b0) (CD5.out.later b0) (by rw[←CA5.out.len];exact Nat.le_trans (bd_ _) HCQ.out) (by rw[←CD5.out.len];exact Nat.le_trans (bc_ _) HCQ.out)) HBd.out)
    clear p0 p1 p2 HB5 HO5 HR5 hsz5 CA5 CD5
    obtain⟨p0,p1,p2⟩:=ar_ HEC.out b0
    clear b0
    first | go_region_with (first
     | (go_at_call 110;refine HSCd.out.mono ?_;rintro ed w6 ⟨a6,n6,c6,rfl,h6,bw⟩;have HB6:=hd_ (ab_ HBd.out bw);have HO6:=HOd.l_ bw;have HR6:=HRd.l_ bw;have hsz6:=Nat.lt_of_lt_of_le hszd bw.size;have S6:=hd_ h6;have W6:Hid (Rw w6 (some ⟨g,i * 3,none⟩) (j - i) (rc - i) W):=hd_ (by
         obtain⟨LR,l1,l2,l3⟩:=HR6.out.cop
         obtain⟨a9,c9,e9,h9⟩:=l1.out
         have hll:LR.length=j+1:=by rw[←ap_,l2,HRLn.out,HJ.out]
         rw[hll] at e9 h9
         simp only[Value.slice.injEq] at e9
         obtain⟨e9,-,e8⟩:=e9
         subst e9
         subst e8
         have hwin:=h9.window (lo:=i) (hi:=j) (by omega) (by omega)
         rw[Go.WideShapes.add_plain,Nat.zero_add] at hwin
         exact⟨_,hwin,by rw[←HWD.out,HJ.out,←l2];show fqs _=_;rw[l0_,hf_],fun x hx=>l3 x (List.mem_of_mem_take (List.mem_of_mem_drop hx))⟩);clear bw h6 HBd HOd HRd HSCd hszd p0 p1 p2)
     | (go_at_call 142;refine (HSB _ _ _ _ _ _ W6.out S6.out).mono ?_;rintro ed w7 ⟨a7,n7,c7,rfl,h7,bw⟩;have HB7:=hd_ (ab_ HB6.out bw);have HO7:=HO6.l_ bw;have HR7:=HR6.l_ bw;have hsz7:=Nat.lt_of_lt_of_le hsz6 bw.size;have P7:=hd_ h7;have hn7:n7=e:=(by rw[←h7.len,HPL.out]);clear bw h7 HB6 HO6 HR6 S6 W6 hsz6)) | fail
    all_goals (
     subst hn7
     have HFr:=hd_ (HR7.out.front (by rw[HRLn.out,←HJ.out]) (i:=i) (by omega))
     have hti:(R.take i).length=i:=by rw[List.length_take,HRLn.out];omega
     have HTI:=hd_ hti
     clear hti
     have hfit:j≤rc:=by omega
     go_wp2_with (at_builtin;refine h2_ _ rfl _ _ 33 rfl w.heap.size 44 i0 Tryz.underlying33 hi hy0 hy1 hy2 g i rc (R.take i) rfl HFr.out HTI.out.symm a7 n7 c7 Pt rfl P7.out j HJ.out hfit (by omega) HB7.out.size ?_;intro w8 hrow hgrow)
     have HR8:Hid (Row w8 w.heap.size 44 (.slice (some ⟨g,0,none⟩) (R.take i ++ Pt).length rc) (R.take i ++ Pt)):=hd_ (by rw[List.length_append,HTI.out,HPL.out,HJ.out];exact hrow)
     have hl8:Hid ((R.take i ++ Pt).length=j):=hd_ (by rw[List.length_append,HTI.out,HPL.out,HJ.out])
     have HO8:=hd_ (HO7.out.beside (u:=.slice (some ⟨g,0,none⟩) i rc) HFr.out.clean hgrow (.inr (fun e9=>by simp only[Value.ownBlock,Option.some.injEq] at e9;exact hgne e9.symm)))
     have HB8:=hd_ (HB7.out.grown hgrow HB7.out.size (fun g' hg'=>by simp at hg';omega))
     have hsz8:=Nat.lt_of_lt_of_le hsz7 hgrow.size
     have HNE8:Hid (∀g',(Value.slice (some ⟨g,0,none⟩) (R.take i ++ Pt).length rc).ownBlock=some g'→w.heap.size≤g'∧g'≠w2.heap.size):=hd_ (fun g' hg'=>by simp[Value.ownBlock] at hg';omega)
     clear hrow hgrow HFr HO7 HB7 HR7 P7 HNE
     go_wp2
     go_roundw
     case rel=>exact⟨i,Q',R.take i ++ Pt,LQ2,some ⟨g,0,none⟩,rc,by omega,rfl,by rw[hl8.out],HD',HR8,HNE8,HLQ2,HF2,HO8,HB8,hsz8⟩
     case measure=>simp[intOf])
  ·obtain rfl:t=0:=by omega
   have hRl:R.length≤300:=by have:=HD.out.len;omega
   obtain⟨hfr,hpq⟩:=HF.out.done (fun j hj=>HD.out.far j (by rw[HLQ.out] at hj;exact hj))
   obtain⟨hdv,hYn,hI⟩:=HD.out.over HBN.out HBL.out HLA.out hnq hpq (by rw[ap_];exact HLQ.out)
   have HDV:=hd_ (show isDiv A B (fqs LQ) (ai_ R)∧ai_ (fqs LQ)=fqs LQ∧∃Q,peq (fqs LQ) Q∧I Q (ai_ R) from ⟨hdv,hYn,Q,hpq,hI⟩)
   have hRq:=(HD.out.room HW.out HBL.out hKT).1
   have hRw:Rw wr ra R.length rc R:=by
    obtain⟨a9,c9,e9,h9⟩:=HR.out.out
    simp only[Value.slice.injEq] at e9
    obtain⟨e9,-,e8⟩:=e9
    rw[e9,e8]
    exact h9
   have HUR:=hd_ (f0_ ra R.length rc R wr hRw (by omega) (fun q hq=>Nat.le_trans (hRq q hq) (by omega)))
   have HY:Hid (Rw wr (some ⟨w2.heap.size,0,none⟩) nq nq (fqs LQ)):=hd_ (by
    obtain⟨a9,c9,e9,h9⟩:=HO.out.out
    rw[HLQ.out] at e9 h9
    simp only[Value.slice.injEq] at e9
    obtain⟨e9,-,e8⟩:=e9
    rw[e9]
    rw[←e8] at h9
    exact⟨LQ,h9,rfl,hfr⟩)
   clear hfr hpq hdv hYn hI hRq hRw HD HF HO HR HNE
   generalize fqs LQ=Y at *
   go_wp2_with fail
   refine HUR.out.mono ?_
   rintro ed w9 ⟨rfl,h9,bw⟩
   have RF:=hd_ h9
   have HB9:=hd_ (ab_ HB.out bw)
   have YF:=HY.l_ bw
   clear bw h9 HUR HY HB
   obtain⟨kr,hkr⟩:∃kr,plen R=kr:=⟨_,rfl⟩
   rw[hkr] at RF ⊢
   clear hkr
   go_wp2
   go_ret3
   exact⟨some ⟨w2.heap.size,0,none⟩,nq,nq,Y,ra,kr,rc,ai_ R,rfl,YF.out,RF.out,HDV.out.1,HDV.out.2.1,a9_ R,HDV.out.2.2,HB9.out⟩
def isZ (q:Rat):Prop:=∃z:Int,q=(z:Rat)
theorem isZ.mul{p q:Rat}(h:isZ p)(k:isZ q):isZ (p * q):=by
 obtain⟨y,rfl⟩:=h
 obtain⟨z,rfl⟩:=k
 exact⟨y * z,by rw[Rat.intCast_mul]⟩
theorem isZ.nat(n:Nat):isZ ((n:Nat):Rat):=⟨(n:Int),by rw[Rat.intCast_natCast]⟩
theorem isZ_one:isZ 1:=⟨1,rfl⟩
theorem isZ_zero:isZ 0:=⟨0,rfl⟩
theorem jq_{a:List Rat}{H:Nat}(h:Ints a H)(i:Nat):isZ (co a i):=by
 obtain⟨z,h1,_⟩:=h i
 exact⟨z,h1⟩
structure Prim (y:LR_):Prop where
 ints:∀i,isZ (co y i)
 one:∀l:Rat,(∀i,isZ (l * co y i))→isZ l
theorem Prim.congr{a b:List Rat}(h:Prim a)(e:peq a b):Prim b:=⟨fun i=>by rw[←e i];exact h.ints i,fun l hl=>h.one l fun i=>by rw[e i];exact hl i⟩
theorem Prim.small{y a:List Rat}{c k:Rat}{H:Nat}(h:Prim y)(hy:peq y (ag_ c a))(hc:c≠0)(hk:k≠0)(hI:Ints (ag_ k a) H):Ints y H:=fun i=>by
 have hcc:k / c * c=k:=Rat.div_mul_cancel hc
 have e:∀i,k / c * co y i=co (ag_ k a) i:=fun i=>by
  rw[hy i,ah_,ah_]
  generalize k / c=x at *
  rw[←hcc];grind
 obtain⟨z,hz⟩:=h.one (k / c) fun i=>by rw[e i];exact jq_ hI i
 have hz0:z≠0:=fun e0=>by
  rw[hz,e0] at hcc
  exact hk (hcc.symm.trans (Rat.zero_mul c))
 obtain⟨u,hu⟩:=h.ints i
 obtain⟨v,hv,hvH⟩:=hI i
 refine ⟨u,hu,?_⟩
 have e1:=e i
 rw[hz,hu,hv,←Rat.intCast_mul] at e1
 have e2:z * u=v:=Rat.intCast_inj.1 e1
 have e3:v.natAbs=z.natAbs * u.natAbs:=by rw[←e2,Int.natAbs_mul]
 have e4:1≤z.natAbs:=by omega
 have e5:1 * u.natAbs≤z.natAbs * u.natAbs:=Nat.mul_le_mul_right _ e4
 omega
theorem ok_{q:Rat}{m:Int}(h:isZ (((m:Rat)) / ((q.den:Nat):Rat) * (q.num:Rat))):isZ ((m:Rat) / ((q.den:Nat):Rat)):=by
 have hd0:((q.den:Nat):Rat)≠0:=fun e=>q.den_nz (Rat.natCast_inj.1 e)
 obtain⟨z,hz⟩:=h
 have e1:(m:Rat) / ((q.den:Nat):Rat) * ((q.den:Nat):Rat)=(m:Rat):=Rat.div_mul_cancel hd0
 have e2:(m:Rat) * (q.num:Rat)=(z:Rat) * ((q.den:Nat):Rat):=by
  rw[←hz]
  generalize (m:Rat) / ((q.den:Nat):Rat)=x at *
  rw[←e1];grind
 rw[←Rat.intCast_natCast,←Rat.intCast_mul,←Rat.intCast_mul] at e2
 have e3:m * q.num=z * (q.den:Int):=Rat.intCast_inj.1 e2
 have e4:q.den ∣ m.natAbs * q.num.natAbs:=⟨z.natAbs,by rw[←Int.natAbs_mul,e3,Int.natAbs_mul,Int.natAbs_natCast,Nat.mul_comm]⟩
 have e5:q.den ∣ m.natAbs:=Nat.Coprime.dvd_of_dvd_mul_right (Nat.Coprime.symm q.reduced) e4
 obtain⟨x,hx⟩:=e5
 have e6:(q.den:Int) ∣ m:=Int.ofNat_dvd_left.2 ⟨x,hx⟩
 obtain⟨y,hy⟩:=e6
 refine ⟨y,?_⟩
 rw[hy,Rat.intCast_mul,Rat.intCast_natCast] at e1 ⊢
 generalize ((q.den:Nat):Rat)=D at *
 have e7:D * (D * (y:Rat) / D - (y:Rat))=0:=by grind
 rcases Rat.mul_eq_zero.1 e7 with g | g
 ·exact absurd g hd0
 ·grind
structure PlainS (T:LR_) (j:Nat) (u:Rat):Prop where
 nz:u≠0
 ints:∀t,(t < j∨t=T.length - 1)→isZ (co T t / u)
 one:∀l:Rat,(∀t,(t < j∨t=T.length - 1)→isZ (l * (co T t / u)))→isZ l
theorem md_{u:Rat}(h:u≠0):u / u=1:=by rw[Rat.div_def];exact Rat.mul_inv_cancel _ h
theorem PlainS.start{T:List Rat}(h:co T (T.length - 1)≠0):PlainS T 0 (co T (T.length - 1)) where
 nz:=h
 ints:=fun t ht=>by
  obtain rfl:t=T.length - 1:=by omega
  rw[md_ h];exact isZ_one
 one:=fun l hl=>by
  have h1:=hl (T.length - 1) (.inr rfl)
  rwa [md_ h,Rat.mul_one] at h1
theorem l8_{x u D:Rat}(hu:u≠0)(hD:D≠0):x / (u * (1 / D))=D * (x / u):=by
 have h1:x / u * u=x:=Rat.div_mul_cancel hu
 have h2:1 / D * D=1:=Rat.div_mul_cancel hD
 have h4:u * (1 / D)≠0:=fun e=>by
  rcases Rat.mul_eq_zero.1 e with g | g
  ·exact hu g
  ·rw[g,Rat.zero_mul] at h2;exact absurd h2 (by decide)
 have h3:x / (u * (1 / D)) * (u * (1 / D))=x:=Rat.div_mul_cancel h4
 generalize x / u=y at *
 generalize 1 / D=E at *
 generalize x / (u * E)=z at *
 have h5:(u * E) * (z - D * y)=0:=by grind
 rcases Rat.mul_eq_zero.1 h5 with g | g
 ·exact absurd g h4
 ·grind
theorem PlainS.step{T:List Rat}{j:Nat}{u q:Rat}(h:PlainS T j u)(hq:q=co T j / u):PlainS T (j+1) (u * (1 / ((q.den:Nat):Rat))):=by
 have hd0:((q.den:Nat):Rat)≠0:=fun e=>q.den_nz (Rat.natCast_inj.1 e)
 have hdm:=den_mul q
 refine ⟨fun e=>?_,fun t ht=>?_,fun l hl=>?_⟩
 ·have h2:1 / ((q.den:Nat):Rat) * ((q.den:Nat):Rat)=1:=Rat.div_mul_cancel hd0
  rcases Rat.mul_eq_zero.1 e with g | g
  ·exact h.nz g
  ·rw[g,Rat.zero_mul] at h2;exact absurd h2 (by decide)
 ·rw[l8_ h.nz hd0]
  by_cases htj:t=j
  ·rw[htj,←hq,hdm];exact⟨q.num,rfl⟩
  ·exact (isZ.nat _).mul (h.ints t (by omega))
 ·have h1:isZ (l * ((q.den:Nat):Rat)):=h.one _ fun t ht=>by
   have h3:=hl t (by omega)
   rw[l8_ h.nz hd0] at h3
   rwa [Rat.mul_assoc]
  have h2:=hl j (.inl (by omega))
  rw[l8_ h.nz hd0,←hq,hdm] at h2
  obtain⟨m,hm⟩:=h1
  have h3:l=(m:Rat) / ((q.den:Nat):Rat):=by
   have h4:(m:Rat) / ((q.den:Nat):Rat) * ((q.den:Nat):Rat)=(m:Rat):=Rat.div_mul_cancel hd0
   generalize (m:Rat) / ((q.den:Nat):Rat)=x at *
   have h5:((q.den:Nat):Rat) * (l - x)=0:=by grind
   rcases Rat.mul_eq_zero.1 h5 with g | g
   ·exact absurd g hd0
   ·grind
  rw[h3] at h2 ⊢
  exact ok_ h2
theorem PlainS.done{T:List Rat}{u:Rat}(h:PlainS T T.length u):Prim (ag_ (1 / u) T):=by
 have e:∀i,co (ag_ (1 / u) T) i=co T i / u:=fun i=>by rw[ah_,Rat.div_def,Rat.div_def];grind
 refine ⟨fun i=>?_,fun l hl=>h.one l fun t ht=>by rw[←e t];exact hl t⟩
 rw[e i]
 rcases Nat.lt_or_ge i T.length with h1 | h1
 ·exact h.ints i (.inl h1)
 ·rw[dv_ h1,Rat.div_def,Rat.zero_mul];exact isZ_zero
theorem p3_{z:Int}{S:Nat}(h:z.natAbs≤pw S):qlen (z:Rat)≤S+2:=by
 have g2:=cy_ (z:=z) (y:=1) (t:=S) h (by have:=et_ S;omega)
 have g3:(z:Rat) / ((1:Int):Rat)=(z:Rat):=by
  have:((1:Int):Rat)=1:=rfl
  rw[this,Rat.div_def,Rat.inv_eq_of_mul_eq_one (Rat.mul_one 1),Rat.mul_one]
 rwa [g3] at g2
theorem PlainS.size{T:List Rat}{j:Nat}{u k:Rat}{S:Nat}(h:PlainS T j u)(ht:co T (T.length - 1)≠0)(hk:k≠0)(hI:Ints (ag_ k T) (pw S)):qlen u≤qlen (1 / k)+S+3∧(∀i,qlen (co T i / u)≤S+2)∧∃m:Int,m≠0∧k * u=(m:Rat)∧m.natAbs≤pw S:=by
 have hc:∀t,k * u * (co T t / u)=co (ag_ k T) t:=fun t=>by
  have h1:co T t / u * u=co T t:=Rat.div_mul_cancel h.nz
  rw[ah_]
  generalize co T t / u=x at *
  rw[←h1];grind
 obtain⟨m,hm⟩:=h.one (k * u) fun t _=>by rw[hc t];exact jq_ hI t
 have hm0:m≠0:=fun e=>by
  rw[e] at hm
  rcases Rat.mul_eq_zero.1 (hm.trans rfl) with g | g
  ·exact hk g
  ·exact h.nz g
 have hmS:m.natAbs≤pw S:=by
  obtain⟨x,hx⟩:=h.ints (T.length - 1) (.inr rfl)
  obtain⟨v,hv,hvS⟩:=hI (T.length - 1)
  have h2:=hc (T.length - 1)
  rw[hm,hx,hv,←Rat.intCast_mul] at h2
  have h3:m * x=v:=Rat.intCast_inj.1 h2
  have hx0:x≠0:=fun e=>by
   rw[e] at hx
   have h4:co T (T.length - 1) / u * u=co T (T.length - 1):=Rat.div_mul_cancel h.nz
   rw[hx] at h4
   exact ht (h4.symm.trans (Rat.zero_mul u))
  have h5:v.natAbs=m.natAbs * x.natAbs:=by rw[←h3,Int.natAbs_mul]
  have h6:m.natAbs * 1≤m.natAbs * x.natAbs:=Nat.mul_le_mul_left _ (by omega)
  omega
 refine ⟨?_,fun i=>?_,m,hm0,hm,hmS⟩
 ·have h1:u=1 / k * (m:Rat):=by
   have h2:1 / k * k=1:=Rat.div_mul_cancel hk
   rw[←hm]
   generalize 1 / k=x at *
   rw[←Rat.mul_assoc,h2,Rat.one_mul]
  have h3:=ch_ (1 / k) (m:Rat)
  have h4:=p3_ hmS
  rw[←h1] at h3
  omega
 ·obtain⟨v,hv,hvS⟩:=hI i
  have h2:=hc i
  rw[hm,hv] at h2
  have h3:co T i / u=(v:Rat) / (m:Rat):=by
   have h4:(v:Rat) / (m:Rat) * (m:Rat)=(v:Rat):=Rat.div_mul_cancel (eb_ hm0)
   generalize (v:Rat) / (m:Rat)=x at *
   generalize co T i / u=y at *
   have h5:(m:Rat) * (y - x)=0:=by grind
   rcases Rat.mul_eq_zero.1 h5 with g | g
   ·exact absurd g (eb_ hm0)
   ·grind
  rw[h3]
  exact cy_ hvS hmS
theorem kb_{c:Rat}{a b g:List Rat}(hc:c≠0)(h:common (ag_ c a) b g):common a b g:=by
 obtain⟨⟨k,hk⟩,hl,u,v,huv⟩:=h
 refine ⟨⟨ag_ (1 / c) k,?_⟩,hl,ag_ c u,v,?_⟩
 ·refine (d0_ hc a).trans (peq.trans ?_ (ck_ (1 / c) k g).symm)
  exact br_ _ hk
 ·exact huv.trans (c1_ ((fe_ c u a).trans (ck_ c u a).symm) (peq.refl _))
theorem il_{c:Rat}{a b g:List Rat}(hc:c≠0)(h:common a (ag_ c b) g):common a b g:=by
 obtain⟨hl,⟨k,hk⟩,u,v,huv⟩:=h
 refine ⟨hl,⟨ag_ (1 / c) k,?_⟩,u,ag_ c v,?_⟩
 ·refine (d0_ hc b).trans (peq.trans ?_ (ck_ (1 / c) k g).symm)
  exact br_ _ hk
 ·exact huv.trans (c1_ (peq.refl _) ((fe_ c v b).trans (ck_ c v b).symm))
structure GcdP (A B x y:LR_):Prop where
 way:∀g,common x y g→common A B g
 eu:∃(X Y:LR_) (c d:Rat),c≠0∧d≠0∧EuS A B X Y∧peq x (ag_ c X)∧peq y (ag_ d Y)
theorem GcdP.start{A B x y:List Rat}{c d:Rat}(hc:c≠0)(hd:d≠0)(hx:peq x (ag_ c A))(hy:peq y (ag_ d B)):GcdP A B x y where
 way:=fun g hg=>kb_ hc (il_ hd (hg.of hx hy (peq.refl g)))
 eu:=⟨A,B,c,d,hc,hd,.inl ⟨peq.refl _,peq.refl _⟩,hx,hy⟩
theorem GcdP.step{A B x y q r r':List Rat}{f e:Rat}(h:GcdP A B x y)(hf:f≠0)(he:e≠0)(hd:isDiv (ag_ f x) y q r)(hr:peq r' (ag_ e r)):GcdP A B y r':=by
 refine ⟨fun g hg=>h.way g ?_,?_⟩
 ·exact kb_ hf (common.step hd.1 (il_ he (hg.of (peq.refl y) hr (peq.refl g))))
 ·obtain⟨X,Y,c,d,hc,hd0,hE,hx,hy⟩:=h.eu
  have hfc:f * c≠0:=fun e0=>by rcases Rat.mul_eq_zero.1 e0 with g | g;exact hf g;exact hc g
  have h2:1 / (f * c) * (f * c)=1:=Rat.div_mul_cancel hfc
  have hdv:isDiv X Y (ag_ (1 / (f * c) * d) q) (ag_ (1 / (f * c)) r):=by
   refine ⟨fun i=>?_,?_⟩
   ·have e1:=hd.1 i
    rw[ah_,hx i,ah_,a4_,(ax_ (peq.refl q) hy) i,fe_ d q Y i,ah_] at e1
    rw[a4_,ck_ (1 / (f * c) * d) q Y i,ah_,ah_]
    generalize 1 / (f * c)=w at *
    generalize co (pmul q Y) i=s at *
    have e2:co X i=w * (f * (c * co X i)):=by grind
    rw[e2,e1];grind
   ·refine Nat.lt_of_le_of_lt (fg_ _ _) ?_
    have e1:=hd.2
    rw[am_ hy,ba_ hd0] at e1
    exact e1
  refine ⟨Y,ag_ (1 / (f * c)) r,d,e * (f * c),hd0,fun e0=>by rcases Rat.mul_eq_zero.1 e0 with g | g;exact he g;exact hfc g,hE.step hdv,hy,hr.trans fun i=>?_⟩
  rw[ah_,ah_,ah_]
  generalize 1 / (f * c)=w at *
  have e2:e * (f * c) * (w * co r i)=e * ((w * (f * c)) * co r i):=by grind
  rw[e2,h2,Rat.one_mul]
theorem GcdP.small{A B x y:List Rat}{c:Rat}{s:Nat}(h:GcdP A B x y)(hc:c≠0)(hA:Ints (ag_ c A) (pw s))(hB:Ints (ag_ c B) (pw s))(hn:2 * (plen A+plen B)+1≤4294967296):∃k:Rat,k≠0∧Ints (ag_ k y) (pw ((s+1) * (plen A+plen B+1))):=by
 obtain⟨X,Y,e,d,he,hd0,hE,hx,hy⟩:=h.eu
 obtain⟨k,hk,hI⟩:=hE.small hc hA hB hn
 have h2:1 / d * d=1:=Rat.div_mul_cancel hd0
 refine ⟨k * (1 / d),fun e0=>?_,hI.congr fun i=>?_⟩
 ·rcases Rat.mul_eq_zero.1 e0 with g | g
  ·exact hk g
  ·rw[g,Rat.zero_mul] at h2;exact absurd h2 (by decide)
 ·rw[ah_,ah_,hy i,ah_]
  generalize 1 / d=w at *
  have e2:k * w * (d * co Y i)=k * ((w * d) * co Y i):=by grind
  rw[e2,h2,Rat.one_mul]
theorem back_len{T:List Rat}{k:Rat}{S N:Nat}(ht:co T (T.length - 1)≠0)(hk:k≠0)(hI:Ints (ag_ k T) (pw S))(hN:qlen (co T (T.length - 1))≤N):qlen (1 / k)≤N+S+3:=by
 obtain⟨v,hv,hvS⟩:=hI (T.length - 1)
 rw[ah_] at hv
 have hv0:(v:Rat)≠0:=fun e=>by
  rw[e] at hv
  rcases Rat.mul_eq_zero.1 hv with g | g
  ·exact hk g
  ·exact ht g
 have h1:1 / k=co T (T.length - 1) / (v:Rat):=by
  have h2:1 / k * k=1:=Rat.div_mul_cancel hk
  have h3:co T (T.length - 1) / (v:Rat) * (v:Rat)=co T (T.length - 1):=Rat.div_mul_cancel hv0
  generalize co T (T.length - 1)=t at *
  generalize t / (v:Rat)=x at *
  generalize 1 / k=y at *
  have h5:(v:Rat) * (y - x)=0:=by rw[←hv];grind
  rcases Rat.mul_eq_zero.1 h5 with g | g
  ·exact absurd g hv0
  ·grind
 rw[h1]
 have h4:=hr_ (co T (T.length - 1)) (v:Rat)
 have h5:=p3_ hvS
 omega
theorem part_val(v:Nat):qval (zneg ((1:Int):Rat).num) (val (dg ((1:Int):Rat).num.natAbs)) (val (dg v))=1 / ((v:Nat):Rat):=by
 unfold qval
 rw[a8_,a8_,jv_,show ((1:Int):Rat).num=1 from rfl,Rat.mkRat_eq_div];rfl
theorem hv_(a:OA_)(n c:Nat)(L:List Fx)(k:Rat)(S:Nat)(w:World)(h:Fxs w a n c L)(hn:n≤300)(ht:thin 2000000000 L)(hk:k≠0)(hI:Ints (ag_ k (ai_ (fqs L))) (pw S))(hb:qlen (1 / k)+S+8≤2000000000) :
 Calls Tryz.prog 140 #[.slice a n c] w (fun e w'=>∃(a':OA_) (n' c':Nat) (Y:LR_),e=.returned (.slice a' n' c')∧Rw w' a' n' c' Y∧Y.length=plen (fqs L)∧(∃l:Rat,l≠0∧Y=ag_ l (ai_ (fqs L)))∧(plen (fqs L)≠0→Prim Y)∧Below w.heap.size w w'):=by
 have hbd:=h.bound
 have hk1:=bp_ h
 have HU:Hid (Calls Tryz.prog 109 #[.slice a n c] w (bg_ (.slice a (plen (fqs L)) c) w)):=hd_ (dh_ a n c L w h (by omega) (ht.mono (by decide)))
 have HA:=hd_ (h.take hk1)
 have TA:=hd_ (c2_ ht (plen (fqs L)))
 have QA:fqs (L.take (plen (fqs L)))=ai_ (fqs L):=ed_ L
 obtain⟨T,hT⟩:∃T,ai_ (fqs L)=T:=⟨_,rfl⟩
 have hTl:T.length=plen (fqs L):=by rw[←hT];rfl
 have hTn:ai_ T=T:=by rw[←hT];exact a9_ _
 rw[hT] at QA hI
 obtain⟨k1,hke⟩:∃k1,plen (fqs L)=k1:=⟨_,rfl⟩
 obtain⟨L1,hL1⟩:∃L1,L.take k1=L1:=⟨_,rfl⟩
 simp only[hke,hL1,hT] at HU HA TA QA hk1 hTl ⊢
 have HQA:=hd_ QA
 have HTL:=hd_ hTl
 have HAL:=hd_ HA.out.len
 clear h ht QA hT hke hL1
 by_cases h0:k1=0
 ·subst h0
  have HT0:Hid (T=[]):=hd_ (List.eq_nil_of_length_eq_zero hTl)
  clear hTl hTn hI hb HA TA
  go_enter Tryz.func140,Tryz.ntmps140
  go_wp2_with fail
  refine HU.out.mono ?_
  rintro e w1 ⟨rfl,bw⟩
  have HB:=hd_ bw
  clear bw HU
  go_wp2
  go_ret
  exact⟨none,0,0,[],rfl,Rw.nil _,rfl,⟨1,by decide,by rw[HT0.out];rfl⟩,fun h9=>absurd rfl h9,HB.out⟩
 ·obtain⟨e,rfl⟩:∃e,k1=e+1:=⟨k1 - 1,by omega⟩
  have htop:co T (T.length - 1)≠0:=e8_ hTn (by omega)
  have HSZ:Hid (∀(j:Nat) (u:Rat),PlainS T j u→qlen u≤2000000000∧∀i,qlen (co T i / u)≤2000000000):=hd_ (fun j u h9=>by
   obtain⟨h1,h2,_⟩:=h9.size htop hk hI
   exact⟨by omega,fun i=>Nat.le_trans (h2 i) (by omega)⟩)
  have HP0:Hid (PlainS T 0 (co T e)):=hd_ (by
   have h9:=PlainS.start htop
   rwa [HTL.out,show e+1 - 1=e by omega] at h9)
  have HTC:Hid (∀j,j < e+1→co T j=(L1.getD j Fx.zero).q):=hd_ (fun j hj=>by rw[←HQA.out];exact kz_ (by rw[HAL.out];exact hj))
  obtain⟨aa,ha⟩:∃aa,a=some aa:=by
   rcases HA.out.2.2.2.2.2 with h9 | ⟨b9,o9,e9,_⟩
   ·omega
   ·exact⟨_,e9⟩
  subst ha
  have hz1:((e:Int)+1 == 0)=false:=by simp;omega
  have hze:((e+1:Nat):Int) - 1=(e:Int):=by omega
  have heb:(e:Int) < ((e+1:Nat):Int):=by omega
  have he0:(0:Int)≤(e:Int):=by omega
  obtain⟨z1,hz9⟩:∃z:Rat,((1:Int):Rat)=z:=⟨_,rfl⟩
  have HO1:∀w':World,Calls Tryz.prog 47 #[.int .i64 1] w' (LstQ z1 w'):=fun w'=>hz9▸eq_ 1 w' (by decide)
  have HZL:Hid (qlen z1≤2):=hd_ (hz9▸co_ (by decide))
  have HPV:Hid (∀v:Nat,qval (zneg z1.num) (val (dg z1.num.natAbs)) (val (dg v))=1 / ((v:Nat):Rat)):=hd_ (hz9▸part_val)
  have HZ1:Hid (z1=1):=hd_ (by rw[←hz9];rfl)
  clear hTl hTn hI hb hk h0 hz9
  go_enter Tryz.func140,Tryz.ntmps140
  go_wp2_with fail
  refine HU.out.mono ?_
  rintro ed w1 ⟨rfl,bw⟩
  have HB1:=hd_ bw
  clear bw HU
  obtain⟨bt,offt,hbt,t0,t1,t2,hokt⟩:=(HA.out.later HB1.out).at (j:=e) (by omega)
  have htht:=TA.out _ (d8_ (L:=L1) (k:=e) (by rw[HAL.out];omega))
  have hct:=HTC.out e (by omega)
  rw[hct] at HP0
  generalize L1.getD e Fx.zero=y at *
  obtain⟨us,ua,un,uc,ula,ub,um,ud,ulb⟩:=y
  simp only at t0 t1 t2 htht
  obtain⟨hua,hub⟩:=hokt
  obtain⟨hun,hum⟩:=htht
  simp only at hua hub hun hum
  have hne9:=hbt
  simp only[Option.some.injEq] at hbt
  subst hbt
  have ba:=aa_ w1 (.cells #[.bool us,.slice ua un uc,.slice ub um ud] 44)
  have U0:=hd_ (aj_ w1 #[.bool us,.slice ua un uc,.slice ub um ud] 44)
  have UA:=hua.l_ ba
  have UD:=hub.l_ ba
  have HB2:=hd_ (ab_ HB1.out ba)
  have hszu:w1.heap.size < (w1.alloc (.cells #[.bool us,.slice ua un uc,.slice ub um ud] 44)).heap.size:=by rw[aq_];omega
  clear ba hua hub hct hne9
  go_wp2
  go_loopw [24] (fun iv wr=>∃(j:Nat) (u:Rat) (us:Bool) (ua:OA_) (un uc:Nat) (ula:List Nat) (ub:OA_) (um ud:Nat) (ulb:List Nat),j≤e+1∧iv=.int .i64 (j:Int)∧un≤2000000000∧um≤2000000000∧Hid (PlainS T j u)∧Hid (qval us (val ula) (val ulb)=u)∧Hid (wr.heap[w1.heap.size]? = some (.cells #[.bool us,.slice ua un uc,.slice ub um ud] 44 (0,0)))∧Hid (Wd wr ua un uc ula)∧Hid (Wd wr ub um ud ulb)∧Hid (Below w.heap.size w wr)∧w1.heap.size < wr.heap.size) (fun iv _=>e+1 - (intOf iv).toNat)
  case atStart=>exact⟨0,_,us,ua,un,uc,ula,ub,um,ud,ulb,by omega,rfl,hun,hum,HP0,hd_ rfl,U0,UA,UD,HB2,hszu⟩
  case round=>
   clear U0 UA UD HB2 hszu HP0 hun hum t0 t1 t2
   obtain⟨j,u,us,ua,un,uc,ula,ub,um,ud,ulb,hj,rfl,hun,hum,HP,HV,U0,UA,UD,HB,hsz⟩:=hrel
   by_cases hlt:j < e+1
   ·obtain⟨by_,offy,hby,e0,e1,e2,hoky⟩:=(HA.out.later HB.out).at (j:=j) (by omega)
    have hthy:=TA.out _ (d8_ (L:=L1) (k:=j) (by rw[HAL.out];omega))
    have hcy:=HTC.out j hlt
    generalize L1.getD j Fx.zero=y at *
    obtain⟨ys,ya,yn,yc,yla,yb,ym,yd,ylb⟩:=y
    simp only at e0 e1 e2 hthy
    obtain⟨hya,hyb⟩:=hoky
    obtain⟨hyn,hym⟩:=hthy
    simp only at hya hyb hyn hym
    have hcy':co T j=qval ys (val yla) (val ylb):=hcy
    simp only[Option.some.injEq] at hby
    cases hby
    obtain⟨q,hq⟩:∃q,co T j / u=q:=⟨_,rfl⟩
    have hP2:=HP.out.step hq.symm
    have hql:qlen q≤2000000000:=by rw[←hq];exact (HSZ.out j u HP.out).2 j
    have hu2l:=(HSZ.out _ _ hP2).1
    obtain⟨u2,hu2⟩:∃u2,u * (1 / ((q.den:Nat):Rat))=u2:=⟨_,rfl⟩
    rw[hu2] at hP2 hu2l
    have HP2:=hd_ hP2
    have HQL:=hd_ hql
    have HU2L:=hd_ hu2l
    have HQU:Hid (∀w':World,Wd w' ya yn yc yla→Wd w' yb ym yd ylb→Wd w' ua un uc ula→Wd w' ub um ud ulb→Calls Tryz.prog 63 #[.agg #[.bool ys,.slice ya yn yc,.slice yb ym yd],.agg #[.bool us,.slice ua un uc,.slice ub um ud]] w' (di_ q (.bool true) w')):=hd_ (fun w' k1 k2 k3 k4=>by
     have h8:=fracSaid.quo (frV ys ya yn yc yb ym yd) (frV us ua un uc ub um ud) (co T j) u w' (Fr.of k1 k2 (by omega) (by omega) hcy'.symm) (Fr.of k3 k4 (by omega) (by omega) HV.out)
     rw[decide_eq_true HP.out.nz,hq] at h8
     exact h8)
    have HMU:Hid (∀(w':World) (a4:OA_) (n4 c4:Nat) (b4:OA_) (m4 d4:Nat),Wd w' ua un uc ula→Wd w' ub um ud ulb→Wd w' a4 n4 c4 (dg z1.num.natAbs)→Wd w' b4 m4 d4 (dg q.den)→Calls Tryz.prog 43 #[.agg #[.bool us,.slice ua un uc,.slice ub um ud],.agg #[.bool (zneg z1.num),.slice a4 n4 c4,.slice b4 m4 d4]] w' (LstQ u2 w')):=hd_ (fun w' a4 n4 c4 b4 m4 d4 k1 k2 k3 k4=>by
     have h8:=fracSaid.mul (frV us ua un uc ub um ud) (frV (zneg z1.num) a4 n4 c4 b4 m4 d4) u (1 / ((q.den:Nat):Rat)) w' (Fr.of k1 k2 (by omega) (by omega) HV.out) (Fr.of k3 k4 (by rw[←k3.len];exact Nat.le_trans (bd_ _) (Nat.le_trans HZL.out (by decide))) (by rw[←k4.len];exact Nat.le_trans (bc_ _) (by have:=HQL.out;omega)) (HPV.out _))
     rw[hu2] at h8
     exact h8)
    have YA:=hd_ hya
    have YD:=hd_ hyb
    have hji:(j:Int) < ((e+1:Nat):Int):=by omega
    have hj0:(0:Int)≤(j:Int):=by omega
    clear hcy hcy' hq hP2 hql hu2l hu2 hya hyb HP HV
    obtain⟨x0,x1,x2⟩:=as_ U0.out
    have bc:=aa_ wr (.cells #[.bool ys,.slice ya yn yc,.slice yb ym yd] 44)
    have HBc:=hd_ (ab_ HB.out bc)
    have U1:=hd_ (ae_ U0.out bc)
    have UA1:=UA.l_ bc
    have UD1:=UD.l_ bc
    have HC1:=hd_ (HQU.out _ (YA.out.later bc) (YD.out.later bc) UA1.out UD1.out)
    clear bc HQU YA YD UA UD
    go_wp2_with fail
    refine HC1.out.mono ?_
    rintro ed w3 ⟨a3,n3,c3,b3,m3,d3,rfl,h3,g3,bw⟩
    clear x0 x1 x2 e0 e1 e2 HB HC1
    unfold frV
    have ba:=aa_ w3 (.cells #[.bool (zneg q.num),.slice a3 n3 c3,.slice b3 m3 d3] 44)
    have bb:=ab_ bw ba
    have T3:=hd_ (aj_ w3 #[.bool (zneg q.num),.slice a3 n3 c3,.slice b3 m3 d3] 44)
    have TD:=g3.l_ ba
    replace HBc:=bt_ HBc bb
    replace U1:=bl_ U1 bb
    replace UA1:=UA1.l_ bb
    replace UD1:=UD1.l_ bb
    have hsz3:wr.heap.size < w3.heap.size:=by have h9:=bw.size;rw[aq_] at h9;omega
    clear ba bb bw h3 g3 U0
    go_wp2_with fail
    refine (HO1 _).mono ?_
    rintro ed w4 ⟨a4,n4,c4,b4,m4,d4,rfl,h4,g4,bw⟩
    unfold frV
    have ba:=aa_ w4 (.cells #[.bool (zneg z1.num),.slice a4 n4 c4,.slice b3 m3 d3] 44)
    have ba2:=aa_ w4 (.cells #[.bool (zneg z1.num),.slice a4 n4 c4,.slice b4 m4 d4] 44)
    have T4:=hd_ (ae_ (ae_ T3.out bw) ba2)
    have hsz4:w3.heap.size < w4.heap.size:=by have h9:=bw.size;rw[aq_] at h9;omega
    have bb:=ab_ bw ba
    have N4:=h4.l_ ba
    replace TD:=TD.l_ bb
    replace HBc:=bt_ HBc bb
    replace U1:=bl_ U1 bb
    replace UA1:=UA1.l_ bb
    replace UD1:=UD1.l_ bb
    clear ba ba2 bb bw h4 g4 T3
    obtain⟨x0,x1,x2⟩:=as_ U1.out
    obtain⟨y0,y1,y2⟩:=as_ T4.out
    have HC2:=hd_ (HMU.out _ a4 n4 c4 b3 m3 d3 UA1.out UD1.out N4.out TD.out)
    clear N4 TD UA1 UD1 HMU
    go_wp2_with fail
    refine HC2.out.mono ?_
    rintro ed w5 ⟨a5,n5,c5,b5,m5,d5,rfl,h5,g5,bw⟩
    clear x0 x1 x2 y0 y1 y2 T4 HC2
    unfold frV
    replace HBc:=bt_ HBc bw
    replace U1:=bl_ U1 bw
    have hsz5:w1.heap.size < w5.heap.size:=by have h9:=bw.size;rw[aq_] at h9;omega
    obtain⟨x0,x1,x2⟩:=as_ U1.out
    have f0:=af_ U1.out 0
    have f1:=af_ U1.out 1
    have f2:=af_ U1.out 2
    have U9:=hd_ (bm_ U1.out (.bool (zneg u2.num)) (.slice a5 n5 c5) (.slice b5 m5 d5))
    have UA9:=hd_ (h5.stored3 U1.out (zneg u2.num) a5 n5 c5 (.slice b5 m5 d5))
    have UD9:=hd_ (g5.stored3 U1.out (zneg u2.num) a5 n5 c5 (.slice b5 m5 d5))
    have HB9:=hd_ (aw_ HBc.out (show w.heap.size≤w1.heap.size from HB1.out.size) (.bool (zneg u2.num)) (.slice a5 n5 c5) (.slice b5 m5 d5))
    have ln5:n5≤2000000000:=by rw[←h5.len];exact Nat.le_trans (bd_ _) HU2L.out
    have lm5:m5≤2000000000:=by rw[←g5.len];exact Nat.le_trans (bc_ _) HU2L.out
    have HV9:=hd_ (fu_ u2)
    clear bw h5 g5 HBc U1
    go_wp2
    go_roundw
    case rel=>exact⟨j+1,u2,zneg u2.num,a5,n5,c5,_,b5,m5,d5,_,by omega,by go_num,ln5,lm5,HP2,HV9,U9,UA9,UD9,HB9,(by simpa using hsz5)⟩
    case measure=>simp[intOf];omega
   ·obtain rfl:j=e+1:=by omega
    have HPR:Hid (Prim (ag_ (1 / u) T)):=hd_ (PlainS.done (by have h9:=HP.out;rwa [←HTL.out] at h9))
    have hu0:=HP.out.nz
    obtain⟨per,hper⟩:∃p,1 / u=p:=⟨_,rfl⟩
    have hper0:per≠0:=fun e9=>by
     have h9:1 / u * u=1:=Rat.div_mul_cancel hu0
     rw[hper,e9,Rat.zero_mul] at h9
     exact absurd h9 (by decide)
    have hperl:qlen per≤2000000000:=by
     rw[←hper,Rat.div_def,Rat.one_mul]
     exact Nat.le_trans (g0_ u) (HSZ.out _ u HP.out).1
    rw[hper] at HPR
    have HQ1:∀(w':World) (a4:OA_) (n4 c4:Nat) (b4:OA_) (m4 d4:Nat),Wd w' a4 n4 c4 (dg z1.num.natAbs)→Wd w' b4 m4 d4 (dg z1.den)→Below wr.heap.size wr w'→Calls Tryz.prog 63 #[.agg #[.bool (zneg z1.num),.slice a4 n4 c4,.slice b4 m4 d4],.agg #[.bool us,.slice ua un uc,.slice ub um ud]] w' (di_ per (.bool true) w'):=fun w' a4 n4 c4 b4 m4 d4 k1 k2 k3=>by
     have h8:=fracSaid.quo (frV (zneg z1.num) a4 n4 c4 b4 m4 d4) (frV us ua un uc ub um ud) z1 u w' (Fr.right k1 k2 (by rw[←k1.len];exact Nat.le_trans (bd_ _) (Nat.le_trans HZL.out (by decide))) (by rw[←k2.len];exact Nat.le_trans (bc_ _) (Nat.le_trans HZL.out (by decide)))) (Fr.of (UA.out.later k3) (UD.out.later k3) (by omega) (by omega) HV.out)
     rw[decide_eq_true hu0,HZ1.out,hper] at h8
     rw[HZ1.out]
     exact h8
    have HSC:∀(w':World) (v:Value),Fr w' v per 2097152000→Below w.heap.size w w'→Calls Tryz.prog 110 #[v,.slice (some ⟨bt,offt,none⟩) (e+1) c] w' (ds_ (ag_ per T) w'):=fun w' v k1 k2=>by
     have h9:=ga_ v per _ (e+1) c L1 w' k1 (HA.out.later k2) (by omega) (TA.out.mono (by decide))
     rwa [HQA.out] at h9
    have SU:=hd_ (show wr.cell? ⟨w1.heap.size,0,none⟩=some (.bool us)∧wr.cell? ⟨w1.heap.size,1,none⟩=some (.slice ua un uc)∧wr.cell? ⟨w1.heap.size,2,none⟩=some (.slice ub um ud) from as_ U0.out)
    have HPL:=hd_ hperl
    have HP9:=hd_ hper0
    have hni:¬((e+1:Nat):Int) < ((e+1:Nat):Int):=by omega
    clear hu0 hper hper0 hperl HP HV UA UD U0
    go_upto_region 13 with fail
    go_cut [9,10] from 42 to 47 (fun cv ov wx=>∃(g:Nat) (a5:OA_) (n5 c5:Nat) (b5:OA_) (m5 d5:Nat),cv=.pointer (some ⟨g,0,none⟩)∧ov=.bool true∧Hid (wx.heap[g]? = some (.cells #[.bool (zneg per.num),.slice a5 n5 c5,.slice b5 m5 d5] 44 (0,0)))∧Hid (Wd wx a5 n5 c5 (dg per.num.natAbs))∧Hid (Wd wx b5 m5 d5 (dg per.den))∧Hid (Below wr.heap.size wr wx))
    case first=>
     obtain⟨s0,s1,s2⟩:=ar_ SU.out (Below.refl wr.heap.size wr)
     go_wp2
     clear s0 s1 s2
     have G1:Below wr.heap.size wr wr.drew:=(Below.refl _ _).drew
     have G2:∀o,Below wr.heap.size wr (wr.alloc o).drew:=fun o=>(aa_ wr o).drew
     have qS:=ar_ SU.out G1
     have qA:=fun o=>ar_ SU.out (G2 o)
     go_region_held3 (fun w'=>w'.cell? ⟨w1.heap.size,0,none⟩=some (.bool us)∧w'.cell? ⟨w1.heap.size,1,none⟩=some (.slice ua un uc)∧w'.cell? ⟨w1.heap.size,2,none⟩=some (.slice ub um ud)) (first | with_reducible exact qS | with_reducible exact qA _ | with_reducible exact qC)
      (first
      | (go_at_call 47;refine (HO1 _).mono ?_;rintro ed w4 ⟨a4,n4,c4,b4,m4,d4,rfl,h4,g4,bw⟩;unfold frV;(first
        | (have bw1:Below wr.drew.heap.size wr.drew w4:=(by with_reducible exact bw);have BB:=hd_ (ab_ G1 bw1);have A4:=hd_ h4;have D4:=hd_ g4;have M1:=True.intro;clear h4 g4 bw bw1 qS qA;have qS:=ar_ SU.out BB.out;have qA:=fun o=>ar_ SU.out (ab_ BB.out (aa_ w4 o)))
        | (have bw1:Below (wr.alloc (.cells #[.bool false,.slice none 0 0,.slice none 0 0] 44)).drew.heap.size (wr.alloc (.cells #[.bool false,.slice none 0 0,.slice none 0 0] 44)).drew w4:=(by with_reducible exact bw);have BB:=hd_ (ab_ (G2 _) bw1);have Z4:=hd_ (ae_ (w:=(wr.alloc (.cells #[.bool false,.slice none 0 0,.slice none 0 0] 44)).drew) (aj_ wr #[.bool false,.slice none 0 0,.slice none 0 0] 44) bw1);have A4:=hd_ h4;have D4:=hd_ g4;clear h4 g4 bw bw1 qS qA;have qS:=ar_ SU.out BB.out;have qA:=fun o=>ar_ SU.out (ab_ BB.out (aa_ w4 o)))))
      | (go_at_call 63;(first
        | (have Y4:=Z4;(with_reducible refine (HQ1 w4 _ _ _ _ _ _ A4.out D4.out BB.out).mono ?_);rintro ed w5 ⟨a5,n5,c5,b5,m5,d5,rfl,h5,g5,bw⟩;have BC:=hd_ (ab_ BB.out bw);have Z5:=hd_ (ae_ Z4.out bw);have hzb:wr.heap.size≤wr.heap.size:=Nat.le_refl _;have A5:=hd_ h5;have D5:=hd_ g5;clear h5 g5 bw Y4 qS qA;unfold frV;obtain⟨z0,z1,z2⟩:=as_ Z5.out;have f0:=af_ Z5.out 0;have f1:=af_ Z5.out 1;have f2:=af_ Z5.out 2;have qS:=ar_ SU.out BC.out;have qA:=fun o=>ar_ SU.out (ab_ BC.out (aa_ w5 o));have qC:=ar_ SU.out (aw_ BC.out hzb (.bool (zneg per.num)) (.slice a5 n5 c5) (.slice b5 m5 d5)))
        | ((with_reducible refine (HQ1 w4 _ _ _ _ _ _ A4.out D4.out BB.out).mono ?_);rintro ed w5 ⟨a5,n5,c5,b5,m5,d5,rfl,h5,g5,bw⟩;have BC:=hd_ (ab_ BB.out bw);have A5:=hd_ h5;have D5:=hd_ g5;clear h5 g5 bw qS qA;unfold frV;have qS:=ar_ SU.out BC.out;have qA:=fun o=>ar_ SU.out (ab_ BC.out (aa_ w5 o)))
        | (have ba:=aa_ w4 (.cells #[.bool false,.slice none 0 0,.slice none 0 0] 44);(with_reducible refine (HQ1 (w4.alloc (.cells #[.bool false,.slice none 0 0,.slice none 0 0] 44)) _ _ _ _ _ _ (A4.out.later ba) (D4.out.later ba) (ab_ BB.out ba)).mono ?_);rintro ed w5 ⟨a5,n5,c5,b5,m5,d5,rfl,h5,g5,bw⟩;have BC:=hd_ (ab_ (ab_ BB.out ba) bw);have Z5:=hd_ (ae_ (aj_ w4 #[.bool false,.slice none 0 0,.slice none 0 0] 44) bw);have hzb:wr.heap.size≤w4.heap.size:=BB.out.size;have A5:=hd_ h5;have D5:=hd_ g5;clear h5 g5 bw ba qS qA;unfold frV;obtain⟨z0,z1,z2⟩:=as_ Z5.out;have f0:=af_ Z5.out 0;have f1:=af_ Z5.out 1;have f2:=af_ Z5.out 2;have qS:=ar_ SU.out BC.out;have qA:=fun o=>ar_ SU.out (ab_ BC.out (aa_ w5 o));have qC:=ar_ SU.out (aw_ BC.out hzb (.bool (zneg per.num)) (.slice a5 n5 c5) (.slice b5 m5 d5))))))
     all_goals (
      go_wp2
      go_meet
      (first
        | exact⟨_,a5,n5,c5,b5,m5,d5,rfl,rfl,hd_ (bm_ Z5.out (.bool (zneg per.num)) (.slice a5 n5 c5) (.slice b5 m5 d5)),hd_ (A5.out.stored3 Z5.out (zneg per.num) a5 n5 c5 (.slice b5 m5 d5)),hd_ (D5.out.stored3 Z5.out (zneg per.num) a5 n5 c5 (.slice b5 m5 d5)),hd_ (aw_ BC.out hzb (.bool (zneg per.num)) (.slice a5 n5 c5) (.slice b5 m5 d5))⟩
        | exact⟨w5.heap.size,a5,n5,c5,b5,m5,d5,rfl,rfl,hd_ (aj_ w5 _ 44),hd_ (A5.out.later (aa_ w5 _)),hd_ (D5.out.later (aa_ w5 _)),hd_ (ab_ BC.out (aa_ w5 _))⟩))
    case rest=>
     obtain⟨g9,a9,n9,c9,b9,m9,d9,rfl,rfl,PB,PA,PD,HBc⟩:=hcut
     have HB9:=hd_ (ab_ HB.out HBc.out)
     obtain⟨x0,x1,x2⟩:=as_ PB.out
     have HC3:=hd_ (HSC wc (frV (zneg per.num) a9 n9 c9 b9 m9 d9) (Fr.right PA.out PD.out (by rw[←PA.out.len];exact Nat.le_trans (bd_ _) (Nat.le_trans HPL.out (by decide))) (by rw[←PD.out.len];exact Nat.le_trans (bc_ _) (Nat.le_trans HPL.out (by decide)))) HB9.out)
     unfold frV at HC3
     clear PA PD HSC HBc HB SU HQ1
     go_wp2_with fail
     refine HC3.out.mono ?_
     rintro ed w7 ⟨a7,n7,c7,rfl,h7,bw⟩
     have R7:=hd_ h7
     have HB7:=hd_ (ab_ HB9.out bw)
     clear bw h7 HC3 x0 x1 x2
     go_wp2
     go_ret
     exact⟨a7,n7,c7,ag_ per T,rfl,R7.out,by rw[a5_];exact HTL.out,⟨per,HP9.out,rfl⟩,fun _=>HPR.out,HB7.out⟩
end Go.Proofs.YtocebjbjnfammaaGreat
