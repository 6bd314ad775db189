import Derived.WalkKit
import Derived.ProofKit
import Derived.OpenShut
import Derived.WalkSpells
import Derived.WalkLawsBesides
import Derived.Lib.Hide
import Derived.Test.YtocebjbjnfammaaGreatRows
import Derived.Lib.BitFns
import Derived.Lib.TrailingZeros
import Derived.Laws.Bits64b
set_option maxRecDepth 4096
set_option maxHeartbeats 16000000
namespace Go.Proofs.YtocebjbjnfammaaGreat
open Go.RowKit
abbrev OA_:=Option Addr
abbrev LR_:=List Rat
theorem hd_{p:Prop}(h:p):Hid p:=Lib.hid h
theorem bl_{w w':World}{g:Nat}{o:Obj}(h:Hid (w.heap[g]? = some o))(b:Below w.heap.size w w'):Hid (w'.heap[g]? = some o):=Lib.hid ((b.block g (Array.getElem?_eq_some_iff.1 h.out).1).trans h.out)
theorem dw_(w:World):Below w.heap.size w w.drew:=(Below.refl _ _).drew
theorem bt_{a b c:World}(h:Hid (Below a.heap.size a b))(k:Below b.heap.size b c):Hid (Below a.heap.size a c):=Lib.hid (h.out.trans (k.mono h.out.size))
open Go.ChangeShapes Go.WideShapes Go.ChangeAt Go.RowKit
theorem p3_{H:Type}{enc:TypeId × Value→H}{P:Program}(hl:laidOutB P=true){W W':World}(hb:Below W.heap.size W W') :
 ∀(ts:List TypeId) (vs:List Value) (ds:List (DataW H)) (ps:List MemPlace),(ts.all fun t=>P.readableRec t && decide (t < P.types.size))=true→
  DataW.TrodAll enc P W 0 (fun _=>true) true ts vs ds ps→(∀x∈ps,x.block < W.heap.size)→
  DataW.TrodAll enc P W' 0 (fun b=>decide (b < W.heap.size)) true ts vs ds ps
 | [],[],[],_,_,h,_=>h
 | t :: ts,v :: vs,d :: ds,ps,hr,h,hlt=>by
   obtain⟨p,q,h1,h2,rfl⟩:=h
   simp only[List.all_cons,Bool.and_eq_true,decide_eq_true_eq] at hr
   exact⟨p,q,Below.trod hl hr.1.1 hr.1.2 h1 hb (fun x hx=>hlt x (by simp[hx])),p3_ hl hb ts vs ds q hr.2 h2 (fun x hx=>hlt x (by simp[hx])),rfl⟩
 | [],[],_ :: _,_,_,h,_=>h.elim
 | [],_ :: _,_,_,_,h,_=>h.elim
 | _ :: _,[],_,_,_,h,_=>h.elim
 | _ :: _,_ :: _,[],_,_,h,_=>h.elim
theorem law_post{H:Type}{enc:TypeId × Value→H}{P:Program}{f:Func}{s:ChangeSpec}{apart fresh handsOn:Bool}{W W':World}{args:Array Value}{ds gs:List (DataW H)}{before:List MemPlace}{tb:TypeId}
 (hl:laidOutB P=true) (hr:(f.params.toList.all fun t=>P.readableRec t && decide (t < P.types.size))=true) (hrt:f.resultTypes=#[tb]) (htb:P.underlying tb=some .bool) (hvars:s.vars=[])
 (hs:s.fn H ds={ results:=[.lit (.bool true)],args:=ds })
 (hW:DataW.Whole enc P f.params.toList s.vars apart W args.toList ds gs before) (hb:Below W.heap.size W W') :
 s.post enc P f apart fresh handsOn false W args (.bool true) W':=by
 have hW0:=hW
 obtain⟨p,q,hA,hV,rfl,_,_⟩:=hW
 rw[hvars] at hV
 obtain⟨rfl,rfl⟩:=trodVars_none hV
 have hlt:∀x∈p,x.block < W.heap.size:=fun x hx=>hW0.lt x (by simp[hx])
 refine ⟨ds,[],p ++ [],[],p,[],hW0,?_,?_,?_,hb.frame _,fun h=>by cases h⟩
 ·rw[List.append_nil,hs,hrt]
  exact trodAll_mk1 (shut_bool htb true)
 ·rw[List.append_nil,hs]
  exact p3_ hl hb _ _ _ _ hr hA hlt
 ·rw[List.append_nil,hs,hvars]
  rfl
def val:List Nat→Nat
 | [] => 0
 | x :: l=>x+4294967296 * val l
def okw (l:List Nat):Prop:=∀x∈l,x < 4294967296
def dg (n:Nat):List Nat:=if h:n=0 then [] else n % 4294967296 :: dg (n / 4294967296)
termination_by n
decreasing_by omega
def atw (l:List Nat) (i:Nat):Nat:=l.getD i 0
def low (l:List Nat) (i:Nat):Nat:=val (l.take i)
def top (l:List Nat) (i:Nat):Nat:=val (l.drop i)
def uh_ (l:List Nat):Prop:=l=[]∨atw l (l.length - 1)≠0
theorem ca_(i:Nat):(4294967296:Nat) ^ (i+1)=4294967296 * 4294967296 ^ i:=by rw[Nat.pow_succ,Nat.mul_comm]
theorem ms_(i:Nat):0 < (4294967296:Nat) ^ i:=Nat.pow_pos (by decide)
theorem f3_:okw []:=fun _ h=>by cases h
theorem okw_cons{x:Nat}{l:List Nat}:okw (x :: l)↔x < 4294967296∧okw l:=by simp[okw]
theorem okw_append{a b:List Nat}:okw (a ++ b)↔okw a∧okw b:=by simp only[okw,List.mem_append];exact⟨fun h=>⟨fun x hx=>h x (.inl hx),fun x hx=>h x (.inr hx)⟩,fun h x hx=>hx.elim (h.1 x) (h.2 x)⟩
theorem f9_{l:List Nat}{x:Nat}(h:okw l)(hx:x < 4294967296):okw (l ++ [x]):=okw_append.2 ⟨h,by simpa [okw] using hx⟩
theorem h5_{l:List Nat}(h:okw l)(i:Nat):okw (l.take i):=fun x hx=>h x (List.mem_of_mem_take hx)
theorem kx_{l:List Nat}(h:okw l)(i:Nat):okw (l.drop i):=fun x hx=>h x (List.mem_of_mem_drop hx)
theorem bk_{l:List Nat}(h:okw l)(i:Nat):atw l i < 4294967296:=by
 unfold atw
 by_cases hi:i < l.length
 ·rw[List.getD_eq_getElem?_getD,List.getElem?_eq_getElem hi];exact h _ (List.getElem_mem hi)
 ·rw[List.getD_eq_getElem?_getD,List.getElem?_eq_none (by omega)];decide
theorem h8_{l:List Nat}{i:Nat}(h:l.length≤i):atw l i=0:=by
 unfold atw;rw[List.getD_eq_getElem?_getD,List.getElem?_eq_none h];rfl
theorem fr_:∀(a b:List Nat),val (a ++ b)=val a+4294967296 ^ a.length * val b
 | [],b=>by simp[val]
 | x :: a,b=>by
   rw[List.cons_append,val,val,fr_ a b,List.length_cons,ca_,Nat.mul_add,Nat.mul_assoc]
   omega
theorem eu_(l:List Nat)(x:Nat):val (l ++ [x])=val l+4294967296 ^ l.length * x:=by rw[fr_];simp[val]
theorem d7_:∀{l:List Nat},okw l→val l < 4294967296 ^ l.length
 | [],_=>by simp[val]
 | x :: l,h=>by
   obtain⟨hx,hl⟩:=okw_cons.1 h
   have:=d7_ hl
   rw[val,List.length_cons,ca_]
   omega
theorem fc_(k:Nat):val (List.replicate k 0)=0:=by
 induction k with
 | zero=>rfl
 | succ k ih=>rw[List.replicate_succ,val,ih]
theorem cc_(l:List Nat):low l 0=0:=by simp[low,val]
theorem eg_{l:List Nat}{i:Nat}(h:l.length≤i):low l i=val l:=by rw[low,List.take_of_length_le h]
theorem l6_{l:List Nat}(h:okw l)(i:Nat):low l i < 4294967296 ^ i:=by
 have h1:=d7_ (h5_ h i)
 have h2:(4294967296:Nat) ^ (l.take i).length≤4294967296 ^ i:=Nat.pow_le_pow_right (by decide) (List.length_take_le _ _)
 unfold low;omega
theorem df_(l:List Nat)(i:Nat):low l (i+1)=low l i+4294967296 ^ i * atw l i:=by
 unfold low atw
 by_cases hi:i < l.length
 ·rw[List.take_succ_eq_append_getElem hi,eu_,List.length_take,Nat.min_eq_left (by omega),List.getD_eq_getElem?_getD,List.getElem?_eq_getElem hi];rfl
 ·rw[List.take_of_length_le (by omega),List.take_of_length_le (by omega),List.getD_eq_getElem?_getD,List.getElem?_eq_none (by omega)];simp
theorem ei_(l:List Nat):top l 0=val l:=by simp[top]
theorem fk_{l:List Nat}{i:Nat}(h:l.length≤i):top l i=0:=by rw[top,List.drop_of_length_le h];rfl
theorem b4_(l:List Nat)(i:Nat):top l i=atw l i+4294967296 * top l (i+1):=by
 unfold top atw
 by_cases hi:i < l.length
 ·rw[List.drop_eq_getElem_cons hi,val,List.getD_eq_getElem?_getD,List.getElem?_eq_getElem hi];rfl
 ·rw[List.drop_of_length_le (by omega),List.drop_of_length_le (by omega),List.getD_eq_getElem?_getD,List.getElem?_eq_none (by omega)];simp[val]
theorem c0_(l:List Nat)(i:Nat):val l=low l i+4294967296 ^ i * top l i:=by
 induction i with
 | zero=>rw[cc_,ei_];simp
 | succ i ih=>rw[ih,df_,b4_,ca_,Nat.mul_add,←Nat.mul_assoc,Nat.mul_comm 4294967296];omega
theorem cm_:dg 0=[]:=by rw[dg];simp
theorem qe_{n:Nat}(h:n≠0):dg n=n % 4294967296 :: dg (n / 4294967296):=by rw[dg];simp[h]
theorem gg_{n:Nat}(h0:n≠0)(h:n < 4294967296):dg n=[n]:=by rw[qe_ h0,show n / 4294967296=0 from by omega,cm_,show n % 4294967296=n from by omega]
theorem cv_(n:Nat):okw (dg n):=by
 induction n using Nat.strongRecOn with
 | _ n ih=>
   by_cases h:n=0
   ·subst h;rw[cm_];exact f3_
   ·rw[qe_ h];exact okw_cons.2 ⟨by omega,ih _ (by omega)⟩
theorem a1_(n:Nat):val (dg n)=n:=by
 induction n using Nat.strongRecOn with
 | _ n ih=>
   by_cases h:n=0
   ·subst h;rw[cm_];rfl
   ·rw[qe_ h,val,ih _ (by omega)];omega
theorem nh_{x:Nat}{l:List Nat}(h:uh_ (x :: l)):uh_ l∧(l=[]→x≠0):=by
 cases h with
 | inl h=>cases h
 | inr h=>
   cases l with
   | nil=>exact⟨.inl rfl,fun _=>by simpa [atw] using h⟩
   | cons y m=>exact⟨.inr (by simpa [atw] using h),fun h=>by cases h⟩
theorem ia_:∀{l:List Nat},uh_ l→val l=0→l=[]
 | [],_,_=>rfl
 | x :: l,h,hv=>by
   obtain⟨h1,h2⟩:=nh_ h
   rw[val] at hv
   have:=ia_ h1 (by omega)
   exact absurd (by omega) (h2 this)
theorem dg_val:∀{l:List Nat},uh_ l→okw l→dg (val l)=l
 | [],_,_=>cm_
 | x :: l,h,ho=>by
   obtain⟨h1,_⟩:=nh_ h
   obtain⟨hx,hl⟩:=okw_cons.1 ho
   have hne:val (x :: l)≠0:=fun e=>by cases ia_ h e
   rw[qe_ hne,val]
   have e1:(x+4294967296 * val l) % 4294967296=x:=by omega
   have e2:(x+4294967296 * val l) / 4294967296=val l:=by omega
   rw[e1,e2,dg_val h1 hl]
theorem bn_{n k:Nat}(h:n < 4294967296 ^ k):(dg n).length≤k:=by
 induction k generalizing n with
 | zero=>have:n=0:=by simpa using h
         subst this;rw[cm_];simp
 | succ k ih=>
   by_cases h0:n=0
   ·subst h0;rw[cm_];simp
   ·rw[qe_ h0,List.length_cons]
    have:=ih (n:=n / 4294967296) (by rw[ca_] at h;omega)
    omega
theorem cs_(n:Nat):n < 4294967296 ^ (dg n).length:=by
 have:=d7_ (cv_ n);rwa [a1_] at this
theorem aw_{a b:Nat}(h:a≤b):(dg a).length≤(dg b).length:=bn_ (Nat.lt_of_le_of_lt h (cs_ b))
theorem dc_{l:List Nat}(h:okw l):(dg (val l)).length≤l.length:=bn_ (d7_ h)
theorem dg_length_pow{n k:Nat}:(dg n).length≤k↔n < 4294967296 ^ k:=
 ⟨fun h=>Nat.lt_of_lt_of_le (cs_ n) (Nat.pow_le_pow_right (by decide) h),bn_⟩
theorem gm_{l:List Nat}{n:Nat}(hn:n≤l.length)(ho:okw l)(ht:top l n=0)(hr:n=0∨atw l (n - 1)≠0):l.take n=dg (val l):=by
 have hv:val (l.take n)=val l:=by
  have:=c0_ l n
  rw[ht] at this
  unfold low at this
  omega
 rw[←hv]
 refine (dg_val ?_ (h5_ ho n)).symm
 by_cases h0:n=0
 ·exact .inl (by subst h0;simp)
 ·refine .inr ?_
  have hlen:(l.take n).length=n:=by rw[List.length_take,Nat.min_eq_left hn]
  rw[hlen]
  unfold atw at *
  rw[List.getD_eq_getElem?_getD,List.getElem?_take,if_pos (by omega),←List.getD_eq_getElem?_getD]
  exact hr.resolve_left h0
theorem h1_{l:List Nat}{n i:Nat}(h:i < n):atw (l.take n) i=atw l i:=by
 unfold atw;rw[List.getD_eq_getElem?_getD,List.getElem?_take,if_pos h,←List.getD_eq_getElem?_getD]
theorem pg_{la lb o:List Nat}{k s t:Nat}(ho:o.length=k)(h:val o+4294967296 ^ k * s=low la k+low lb k)(ht:t=s+(atw la k+atw lb k)) :
 val (o ++ [t % 4294967296])+4294967296 ^ (k+1) * (t / 4294967296)=low la (k+1)+low lb (k+1):=by
 rw[eu_,ho,df_,df_,ca_]
 generalize 4294967296 ^ k=P at *
 have e:P * (t % 4294967296)+4294967296 * P * (t / 4294967296)=P * t:=by
  rw[Nat.mul_comm 4294967296 P,Nat.mul_assoc,←Nat.mul_add,Nat.mod_add_div]
 have e2:P * t=P * s+(P * atw la k+P * atw lb k):=by rw[ht,Nat.mul_add,Nat.mul_add]
 generalize P * t=u at *
 generalize P * s=v at *
 generalize P * (t % 4294967296)=x at *
 generalize 4294967296 * P * (t / 4294967296)=y at *
 omega
theorem add_end{la lb o:List Nat}{N s:Nat}(ha:okw la)(hb:okw lb)(hla:la.length≤N)(hlb:lb.length≤N)(ho:o.length=N+1)(h:val o+4294967296 ^ (N+1) * s=low la (N+1)+low lb (N+1)) :
 val o=val la+val lb:=by
 rw[eg_ (by omega),eg_ (by omega)] at h
 have h1:val la < 4294967296 ^ N:=Nat.lt_of_lt_of_le (d7_ ha) (Nat.pow_le_pow_right (by decide) hla)
 have h2:val lb < 4294967296 ^ N:=Nat.lt_of_lt_of_le (d7_ hb) (Nat.pow_le_pow_right (by decide) hlb)
 rw[ca_] at h
 generalize 4294967296 ^ N=P at *
 have hs:s=0:=by
  cases s with
  | zero=>rfl
  | succ s=>
    have h3:4294967296 * P * 1≤4294967296 * P * (s+1):=Nat.mul_le_mul_left _ (by omega)
    generalize 4294967296 * P * (s+1)=z at *
    omega
 subst hs
 omega
theorem h6_{la lb o:List Nat}{k s z r:Nat}(ho:o.length=k)(h:low la k+4294967296 ^ k * s=low lb k+val o)(ht:atw la k+4294967296 * z=atw lb k+s+r) :
 low la (k+1)+4294967296 ^ (k+1) * z=low lb (k+1)+val (o ++ [r]):=by
 rw[eu_,ho,df_,df_,ca_]
 generalize 4294967296 ^ k=P at *
 have e:P * atw la k+4294967296 * P * z=P * atw lb k+P * s+P * r:=by
  rw[Nat.mul_comm 4294967296 P,Nat.mul_assoc,←Nat.mul_add,ht,Nat.mul_add,Nat.mul_add]
 generalize P * atw la k=x at *
 generalize 4294967296 * P * z=y at *
 generalize P * atw lb k=u at *
 generalize P * s=v at *
 generalize P * r=t at *
 omega
theorem sub_end{la lb o:List Nat}{N s:Nat}(hle:val lb≤val la)(hla:la.length≤N)(hlb:lb.length≤N)(ho:o.length=N)(hok:okw o)(h:low la N+4294967296 ^ N * s=low lb N+val o) :
 val o=val la - val lb:=by
 rw[eg_ hla,eg_ hlb] at h
 have h1:=d7_ hok
 rw[ho] at h1
 generalize 4294967296 ^ N=P at *
 have hs:s=0:=by
  cases s with
  | zero=>rfl
  | succ s=>
    have h3:P * 1≤P * (s+1):=Nat.mul_le_mul_left _ (by omega)
    generalize P * (s+1)=z at *
    omega
 subst hs
 omega
theorem g1_(o:List Nat)(N k r:Nat)(ho:o.length=k)(hk:k < N):(o ++ List.replicate (N - k) 0).set k r=(o ++ [r]) ++ List.replicate (N - (k+1)) 0:=by
 obtain⟨j,hj⟩:∃j,N - k=j+1:=⟨N - k - 1,by omega⟩
 have hj2:N - (k+1)=j:=by omega
 rw[hj,hj2,List.replicate_succ,List.set_append_right _ _ (by omega),ho,Nat.sub_self]
 simp
theorem rp_{l:List Nat}(h:l.length≤2):val l=atw l 0+4294967296 * atw l 1:=by
 match l,h with
 | [],_=>rfl
 | [x],_=>simp[val,atw]
 | [x,y],_=>simp[val,atw]
theorem dg_nil_iff{n:Nat}:(dg n).length=0↔n=0:=
 ⟨fun h=>by have:=a1_ n;rw[List.eq_nil_of_length_eq_zero h] at this;exact this.symm,fun h=>by rw[h,cm_];rfl⟩
theorem ns_{a b:List Nat}(ha:okw a){i:Nat}(ht:top a (i+1)=top b (i+1))(h:atw a i < atw b i):val a < val b:=by
 rw[c0_ a i,c0_ b i,b4_ a i,b4_ b i,ht]
 have h1:=l6_ ha i
 have h2:4294967296 ^ i * (atw a i+4294967296 * top b (i+1))+4294967296 ^ i≤4294967296 ^ i * (atw b i+4294967296 * top b (i+1)):=by
  rw[←Nat.mul_succ];exact Nat.mul_le_mul_left _ (by omega)
 omega
theorem top_eq{a b:List Nat}{i:Nat}(ht:top a (i+1)=top b (i+1))(h:atw a i=atw b i):top a i=top b i:=by rw[b4_ a,b4_ b,ht,h]
theorem iv_{a b:List Nat}(hl:a.length=b.length)(h:∀j,j < a.length→atw a j=atw b j):a=b:=by
 apply List.ext_getElem hl
 intro j h1 h2
 have:=h j h1
 unfold atw at this
 rwa [List.getD_eq_getElem?_getD,List.getD_eq_getElem?_getD,List.getElem?_eq_getElem h1,List.getElem?_eq_getElem h2] at this
theorem ow_{a b:List Nat}{j:Nat}(h:atw a j≠atw b j):a≠b:=fun e=>h (by rw[e])
def vals:List (List Nat)→Nat
 | [] => 0
 | l :: r=>val l+vals r
def ed_:List (List Nat)→Nat
 | [] => 0
 | l :: r=>l.length+ed_ r
theorem vals_take(ls:List (List Nat))(k:Nat)(hk:k < ls.length):vals (ls.take (k+1))=vals (ls.take k)+val (ls.getD k []):=by
 induction ls generalizing k with
 | nil=>simp at hk
 | cons l r ih=>
   cases k with
   | zero=>simp[vals]
   | succ k=>
     have:=ih k (by simpa using hk)
     simp only[List.take_succ_cons,vals,List.getD_cons_succ]
     omega
theorem pv_(ls:List (List Nat))(k:Nat)(hk:k < ls.length):(ls.getD k []).length≤ed_ ls:=by
 induction ls generalizing k with
 | nil=>simp at hk
 | cons l r ih=>
   cases k with
   | zero=>simp[ed_]
   | succ k=>
     have:=ih k (by simpa using hk)
     simp only[ed_,List.getD_cons_succ]
     omega
theorem vals_lt{ls:List (List Nat)}(h:∀l∈ls,okw l):vals ls < 4294967296 ^ ed_ ls+ls.length * 4294967296 ^ ed_ ls:=by
 induction ls with
 | nil=>simp[vals,ed_]
 | cons l r ih=>
   have h1:=d7_ (h l (by simp))
   have h3:=ih (fun x hx=>h x (by simp[hx]))
   have e1:(4294967296:Nat) ^ l.length≤4294967296 ^ (l.length+ed_ r):=Nat.pow_le_pow_right (by decide) (by omega)
   have e2:(4294967296:Nat) ^ ed_ r≤4294967296 ^ (l.length+ed_ r):=Nat.pow_le_pow_right (by decide) (by omega)
   have e3:r.length * 4294967296 ^ ed_ r≤r.length * 4294967296 ^ (l.length+ed_ r):=Nat.mul_le_mul_left _ e2
   simp only[vals,ed_,List.length_cons,Nat.add_mul,Nat.one_mul]
   generalize (4294967296:Nat) ^ l.length=p at *
   generalize (4294967296:Nat) ^ ed_ r=q at *
   generalize (4294967296:Nat) ^ (l.length+ed_ r)=t at *
   generalize r.length * q=x at *
   generalize r.length * t=y at *
   omega
theorem ro_{ls:List (List Nat)}(h:∀l∈ls,okw l)(hn:ls.length < 4294967296):(dg (vals ls)).length≤ed_ ls+1:=by
 apply bn_
 have h1:=vals_lt h
 rw[ca_]
 have h2:ls.length * 4294967296 ^ ed_ ls+4294967296 ^ ed_ ls≤4294967296 * 4294967296 ^ ed_ ls:=by
  rw[←Nat.succ_mul];exact Nat.mul_le_mul_right _ hn
 generalize 4294967296 ^ ed_ ls=p at *
 generalize ls.length * p=x at *
 omega
def cmpI (x y:Nat):Int:=if x < y then -1 else if y < x then 1 else 0
theorem f2_{x y:Nat}(h:x < y):cmpI x y = -1:=by simp[cmpI,h]
theorem jr_{x y:Nat}(h:y < x):cmpI x y=1:=by unfold cmpI;rw[if_neg (by omega),if_pos h]
theorem pj_{x y:Nat}(h:x=y):cmpI x y=0:=by subst h;simp[cmpI]
theorem fm_{a b:Bool}(h:a=b):Ending.returned (.bool a)=.returned (.bool b):=by rw[h]
theorem d2_{a b:Int}(h:a=b):Ending.returned (.int .i64 a)=.returned (.int .i64 b):=by rw[h]
def Wd (w:World) (a:OA_) (n cap:Nat) (l:List Nat):Prop:=
 l.length=n∧n≤cap∧cap≤9223372036854775807∧okw l∧(a=none→cap=0)∧(n=0∨∃b off,a=some ⟨b,off,none⟩∧∀j,j < n→w.cell? ⟨b,off+j,none⟩=some (.int .u32 ((atw l j:Nat):Int)))
theorem Wd.len{w:World}{a:Option Addr}{n cap:Nat}{l:List Nat}(h:Wd w a n cap l):l.length=n:=h.1
theorem Wd.ok{w:World}{a:Option Addr}{n cap:Nat}{l:List Nat}(h:Wd w a n cap l):okw l:=h.2.2.2.1
theorem Wd.bound{w:World}{a:Option Addr}{n cap:Nat}{l:List Nat}(h:Wd w a n cap l):n≤cap∧cap≤9223372036854775807:=⟨h.2.1,h.2.2.1⟩
theorem Wd.ofNone{w:World}{n cap:Nat}{l:List Nat}(h:Wd w none n cap l):n=0∧cap=0∧l=[]:=by
 have h1:=h.2.2.2.2.1 rfl
 have h2:=h.2.1
 have h3:=h.1
 exact⟨by omega,h1,List.eq_nil_of_length_eq_zero (by omega)⟩
theorem Wd.at{w:World}{a:Option Addr}{n cap:Nat}{l:List Nat}(h:Wd w a n cap l)(hn:0 < n):∃b off,a=some ⟨b,off,none⟩∧∀j,j < n→w.cell? ⟨b,off+j,none⟩=some (.int .u32 ((atw l j:Nat):Int)):=by
 rcases h.2.2.2.2.2 with h0 | h0
 ·omega
 ·exact h0
theorem Wd.later{w w':World}{a:Option Addr}{n cap:Nat}{l:List Nat}(h:Wd w a n cap l)(hb:Below w.heap.size w w'):Wd w' a n cap l:=
 ⟨h.1,h.2.1,h.2.2.1,h.2.2.2.1,h.2.2.2.2.1,h.2.2.2.2.2.imp id fun ⟨b,off,e,hc⟩=>⟨b,off,e,fun j hj=>cell_later hb (hc j hj)⟩⟩
theorem Wd.l_ {w w':World}{x0 x1 x2 x3}(h:Wd w x0 x1 x2 x3)(b:Below w.heap.size w w'):Hid (Wd w' x0 x1 x2 x3):=Lib.hid (h.later b)
theorem Wd.ofNil(w:World):Wd w none 0 0 []:=⟨rfl,Nat.le_refl _,by omega,f3_,fun _=>rfl,.inl rfl⟩
theorem Wd.empty(w:World)(ad:Addr)(cap:Nat)(h:cap≤9223372036854775807):Wd w (some ad) 0 cap []:=⟨rfl,Nat.zero_le _,h,f3_,fun e=>(by cases e),.inl rfl⟩
theorem Wd.take{w:World}{a:Option Addr}{n cap:Nat}{l:List Nat}(h:Wd w a n cap l){k:Nat}(hk:k≤n):Wd w a k cap (l.take k):=by
 obtain⟨h1,h2,h3,h4,h6,h5⟩:=h
 refine ⟨by rw[List.length_take];omega,by omega,h3,h5_ h4 k,h6,?_⟩
 by_cases hk0:k=0
 ·exact .inl hk0
 ·rcases h5 with h0 | ⟨b,off,e,hc⟩
  ·omega
  ·exact .inr ⟨b,off,e,fun j hj=>by rw[hc j (by omega),h1_ hj]⟩
def Wds (w:World) (a:OA_) (n cap:Nat) (ls:List (List Nat)):Prop:=
 ls.length=n∧n≤cap∧cap≤9223372036854775807∧(a=none→cap=0)∧(n=0∨∃b off,a=some ⟨b,off,none⟩∧∀j,j < n→∃a' n' c',w.cell? ⟨b,off+j,none⟩=some (.slice a' n' c')∧Wd w a' n' c' (ls.getD j []))
theorem Wds.len{w:World}{a:Option Addr}{n cap:Nat}{l:List (List Nat)}(h:Wds w a n cap l):l.length=n:=h.1
theorem Wds.bound{w:World}{a:Option Addr}{n cap:Nat}{l:List (List Nat)}(h:Wds w a n cap l):n≤cap∧cap≤9223372036854775807:=⟨h.2.1,h.2.2.1⟩
theorem Wds.at{w:World}{a:Option Addr}{n cap:Nat}{l:List (List Nat)}(h:Wds w a n cap l){j:Nat}(hj:j < n):∃b off,a=some ⟨b,off,none⟩∧∃a' n' c',w.cell? ⟨b,off+j,none⟩=some (.slice a' n' c')∧Wd w a' n' c' (l.getD j []):=by
 rcases h.2.2.2.2 with h0 | ⟨b,off,e,hc⟩
 ·omega
 ·exact⟨b,off,e,hc j hj⟩
theorem Wds.oks{w:World}{a:Option Addr}{n cap:Nat}{l:List (List Nat)}(h:Wds w a n cap l):∀x∈l,okw x:=by
 intro x hx
 obtain⟨j,hj,rfl⟩:=List.getElem_of_mem hx
 obtain⟨b,off,_,a',n',c',_,hw⟩:=h.at (j:=j) (by rw[←h.len];exact hj)
 have:=hw.ok
 rwa [List.getD_eq_getElem?_getD,List.getElem?_eq_getElem hj] at this
theorem Wds.later{w w':World}{a:Option Addr}{n cap:Nat}{l:List (List Nat)}(h:Wds w a n cap l)(hb:Below w.heap.size w w'):Wds w' a n cap l:=
 ⟨h.1,h.2.1,h.2.2.1,h.2.2.2.1,h.2.2.2.2.imp id fun ⟨b,off,e,hc⟩=>⟨b,off,e,fun j hj=>by
   obtain⟨a',n',c',h1,h2⟩:=hc j hj
   exact⟨a',n',c',cell_later hb h1,h2.later hb⟩⟩⟩
theorem Wds.l_ {w w':World}{x0 x1 x2 x3}(h:Wds w x0 x1 x2 x3)(b:Below w.heap.size w w'):Hid (Wds w' x0 x1 x2 x3):=Lib.hid (h.later b)
def b7_ (l:List Nat):List Value:=l.map fun x=>Value.int .u32 ((x:Nat):Int)
theorem bz_(l:List Nat):(b7_ l).length=l.length:=by simp[b7_]
theorem ox_(a b:List Nat):b7_ (a ++ b)=b7_ a ++ b7_ b:=by simp[b7_]
theorem fu_{l:List Nat}{j:Nat}(h:j < l.length):(b7_ l)[j]? = some (.int .u32 ((atw l j:Nat):Int)):=by
 simp[b7_,atw,h,List.getD_eq_getElem?_getD]
theorem dz_(l:List Nat):∀u∈b7_ l,u.oneCell'=true:=by
 intro u hu
 simp only[b7_,List.mem_map] at hu
 obtain⟨x,_,rfl⟩:=hu
 rfl
theorem Wd.cells{w:World}{b off n cap:Nat}{l:List Nat}(h:Wd w (some ⟨b,off,none⟩) n cap l):∀j u,(b7_ l)[j]? = some u→w.cell? ((⟨b,off,none⟩:Addr).add j)=some u:=by
 intro j u hu
 have hj:j < l.length:=by
  rcases Nat.lt_or_ge j l.length with h1 | h1
  ·exact h1
  ·rw[List.getElem?_eq_none (by rw[bz_];exact h1)] at hu;cases hu
 rw[fu_ hj] at hu
 have hn:=h.len
 obtain⟨b',off',e,hc⟩:=h.at (by omega)
 simp only[Option.some.injEq,Addr.mk.injEq,and_true] at e
 obtain⟨rfl,rfl⟩:=e
 rw[←hu]
 have:=hc j (by omega)
 by_cases h0:j=0
 ·subst h0;simpa [Addr.add] using this
 ·simpa [Addr.add,h0] using this
theorem Wd.own{w:World}{base:Nat}{e:TypeId}{a:Option Addr}{n cap:Nat}{l:List Nat}(h:w.ownsRow base e 1 (.slice a n cap) n (b7_ l))(ho:okw l):Wd w a n cap l:=by
 have hl:l.length=n:=by have:=h.1;rw[bz_] at this;omega
 rcases h.2 with ⟨h',h0⟩ | ⟨g,cap',cur,h',hb,hg,hnc,hcm,hcs,htake⟩
 ·simp only[Value.slice.injEq] at h'
  obtain⟨rfl,rfl,rfl⟩:=h'
  exact⟨hl,Nat.le_refl _,by omega,ho,fun _=>rfl,.inl rfl⟩
 ·simp only[Value.slice.injEq] at h'
  obtain⟨rfl,_,rfl⟩:=h'
  refine ⟨hl,hnc,by unfold maxLen at hcm;omega,ho,fun e=>(by cases e),.inr ⟨g,0,rfl,fun j hj=>?_⟩⟩
  rw[Nat.zero_add,h.cellAt j (by omega),fu_ (by omega)]
theorem e4_(l:List Nat)(k r:Nat):(b7_ l).set k (.int .u32 ((r:Nat):Int))=b7_ (l.set k r):=by simp[b7_,List.map_set]
theorem f7_(n:Nat):(madeCells (Value.int .u32 0).cells (n * 1)).toList=b7_ (List.replicate n 0):=by
 rw[Nat.mul_one]
 show (madeCells #[Value.int .u32 0] n).toList=_
 rw[toList_madeCells_one]
 simp[b7_]
theorem Wd.lit2(w:World)(e:TypeId){x y:Nat}(hx:x < 4294967296)(hy:y < 4294967296):Wd (w.alloc (.cells #[.int .u32 (x:Int),.int .u32 (y:Int)] e)) (some ⟨w.heap.size,0,none⟩) 2 2 [x,y]:=
 Wd.own (base:=0) (World.ownsRow_lit (base:=0) w #[.int .u32 (x:Int),.int .u32 (y:Int)] 2 (Nat.zero_le _) (by decide) rfl) (okw_cons.2 ⟨hx,okw_cons.2 ⟨hy,f3_⟩⟩)
theorem Wd.lit1(w:World)(e:TypeId){x:Nat}(hx:x < 4294967296):Wd (w.alloc (.cells #[.int .u32 (x:Int)] e)) (some ⟨w.heap.size,0,none⟩) 1 1 [x]:=
 Wd.own (base:=0) (World.ownsRow_lit (base:=0) w #[.int .u32 (x:Int)] 1 (Nat.zero_le _) (by decide) rfl) (okw_cons.2 ⟨hx,f3_⟩)
theorem Wds.lit2(w:World)(e:TypeId){a1 a2:Option Addr}{n1 n2 c1 c2:Nat}{l1 l2:List Nat}(h1:Wd w a1 n1 c1 l1)(h2:Wd w a2 n2 c2 l2) :
 Wds (w.alloc (.cells #[.slice a1 n1 c1,.slice a2 n2 c2] e)) (some ⟨w.heap.size,0,none⟩) 2 2 [l1,l2]:=by
 have hb:Below w.heap.size w (w.alloc (.cells #[.slice a1 n1 c1,.slice a2 n2 c2] e)):=(Below.refl _ _).alloc (Nat.le_refl _) _
 refine ⟨rfl,Nat.le_refl _,by omega,fun h=>(by cases h),.inr ⟨w.heap.size,0,rfl,fun j hj=>?_⟩⟩
 match j,hj with
 | 0,_=>exact⟨a1,n1,c1,by simp,h1.later hb⟩
 | 1,_=>exact⟨a2,n2,c2,by simp,h2.later hb⟩
theorem Wds.lit3(w:World)(e:TypeId){a1 a2 a3:Option Addr}{n1 n2 n3 c1 c2 c3:Nat}{l1 l2 l3:List Nat}(h1:Wd w a1 n1 c1 l1)(h2:Wd w a2 n2 c2 l2)(h3:Wd w a3 n3 c3 l3) :
 Wds (w.alloc (.cells #[.slice a1 n1 c1,.slice a2 n2 c2,.slice a3 n3 c3] e)) (some ⟨w.heap.size,0,none⟩) 3 3 [l1,l2,l3]:=by
 have hb:Below w.heap.size w (w.alloc (.cells #[.slice a1 n1 c1,.slice a2 n2 c2,.slice a3 n3 c3] e)):=(Below.refl _ _).alloc (Nat.le_refl _) _
 refine ⟨rfl,Nat.le_refl _,by omega,fun h=>(by cases h),.inr ⟨w.heap.size,0,rfl,fun j hj=>?_⟩⟩
 match j,hj with
 | 0,_=>exact⟨a1,n1,c1,by simp,h1.later hb⟩
 | 1,_=>exact⟨a2,n2,c2,by simp,h2.later hb⟩
 | 2,_=>exact⟨a3,n3,c3,by simp,h3.later hb⟩
theorem aa_(w:World)(o:Obj):Below w.heap.size w (w.alloc o):=(Below.refl _ _).alloc (Nat.le_refl _) o
theorem ek_(w:World)(n:Nat):Below w.heap.size w (w.drewN n):=below_drewN (Below.refl _ _) n
theorem ab_{w w1 w2:World}(h:Below w.heap.size w w1)(k:Below w1.heap.size w1 w2):Below w.heap.size w w2:=h.trans (k.mono h.size)
theorem li_{w:World}{base:Nat}{e:TypeId}{v:Value}{n:Nat}{xs:List Value}(h:w.ownsRow base e 1 v n xs):∃a cap,v=.slice a n cap:=by
 rcases h.2 with ⟨h',h0⟩ | ⟨g,cap',cur,h',_⟩
 ·exact⟨none,0,by rw[h',h0]⟩
 ·exact⟨_,_,h'⟩
theorem hz_{P:Program}{f:FuncId}{args:Array Value}{W:World}{v:Value}{Z:World→Prop}(h:Calls P f args W fun e w'=>e=.returned v∧W=w')(hz:Z W):Calls P f args W fun e w'=>e=.returned v∧Z w':=
 h.mono fun _ _ ⟨he,hw⟩=>⟨he,hw▸hz⟩
theorem sk_{P:Program}{f:FuncId}{args:Array Value}{W:World}{v:Value}{Z:World→Prop}(h:Calls P f args W fun e w'=>e=.returned v∧∃q,w'=W.drewN q)(hz:∀q,Z (W.drewN q)):Calls P f args W fun e w'=>e=.returned v∧Z w':=
 h.mono fun _ _ ⟨he,q,hw⟩=>⟨he,hw▸hz q⟩
def ku_:Value→Nat | .slice _ n _=>n | _=>0
def Lst (l:List Nat) (w:World) (e:Ending) (w':World):Prop:=
 ∃(a:OA_) (n cap:Nat),e=.returned (.slice a n cap)∧Wd w' a n cap l∧Below w.heap.size w w'
def Lst2 (l:List Nat) (v:Value) (w:World) (e:Ending) (w':World):Prop:=
 ∃(a:OA_) (n cap:Nat),e=.returned (.tuple #[.slice a n cap,v])∧Wd w' a n cap l∧Below w.heap.size w w'
def bi_ (v:Value) (w:World) (e:Ending) (w':World):Prop:=e=.returned v∧Below w.heap.size w w'
def two64:Nat:=18446744073709551616
def nj_ (v:Nat):Bool:=decide (v < two64)
def ki_ (v:Nat):Nat:=if v < two64 then v else 0
structure NatSaid:Prop where
 norm:∀(a:OA_) (n cap:Nat) (l:List Nat) (w:World),Wd w a n cap l→n≤17592183947264→Calls Tryz.prog 133 #[.slice a n cap] w (Lst (dg (val l)) w)
 of:∀(x:Nat) (w:World),x≤18446744073709551615→Calls Tryz.prog 97 #[.int .u64 (x:Int)] w (Lst (dg x) w)
 small:∀(a:OA_) (n cap:Nat) (l:List Nat) (w:World),Wd w a n cap l→n≤17592183947264→Calls Tryz.prog 154 #[.slice a n cap] w (bi_ (.tuple #[.int .u64 ((ki_ (val l):Nat):Int),.bool (nj_ (val l))]) w)
 zero:∀(a:OA_) (n cap:Nat) (l:List Nat) (w:World),Wd w a n cap l→n≤17592183947264→Calls Tryz.prog 93 #[.slice a n cap] w (bi_ (.bool (decide (val l=0))) w)
 cmp:∀(a:OA_) (n cap:Nat) (la:List Nat) (b:OA_) (m cap':Nat) (lb:List Nat) (w:World),Wd w a n cap la→Wd w b m cap' lb→n≤17592183947264→m≤17592183947264→
  Calls Tryz.prog 150 #[.slice a n cap,.slice b m cap'] w (bi_ (.int .i64 (cmpI (val la) (val lb))) w)
 add:∀(a:OA_) (n cap:Nat) (ls:List (List Nat)) (w:World),Wds w a n cap ls→n≤1000000→ed_ ls≤1048576000000→Calls Tryz.prog 130 #[.slice a n cap] w (Lst (dg (vals ls)) w)
 gap:∀(a:OA_) (n cap:Nat) (la:List Nat) (b:OA_) (m cap':Nat) (lb:List Nat) (w:World),Wd w a n cap la→Wd w b m cap' lb→n≤17592183947264→m≤17592183947264→
  Calls Tryz.prog 131 #[.slice a n cap,.slice b m cap'] w (Lst2 (dg (val la - val lb+(val lb - val la))) (.int .i64 (cmpI (val la) (val lb))) w)
theorem top_dg{l:List Nat}:top l (dg (val l)).length=0:=by
 have h1:=c0_ l (dg (val l)).length
 have h2:=cs_ (val l)
 generalize (dg (val l)).length=n at *
 rcases Nat.eq_zero_or_pos (top l n) with h | h
 ·exact h
 ·have h3:4294967296 ^ n * 1≤4294967296 ^ n * top l n:=Nat.mul_le_mul_left _ h
  omega
theorem ug_{l:List Nat}(ho:okw l):(dg (val l)).length=0∨atw l ((dg (val l)).length - 1)≠0:=by
 by_cases h0:(dg (val l)).length=0
 ·exact .inl h0
 ·refine .inr fun h=>?_
  have h1:=c0_ l ((dg (val l)).length - 1)
  rw[b4_,h,Nat.sub_add_cancel (by omega),top_dg] at h1
  have h2:=l6_ ho ((dg (val l)).length - 1)
  have h3:(dg (val l)).length≤(dg (val l)).length - 1:=bn_ (by omega)
  omega
theorem take_dg{l:List Nat}(ho:okw l):l.take (dg (val l)).length=dg (val l):=
 gm_ (dc_ ho) ho top_dg (ug_ ho)
theorem dg_stop{l:List Nat}{n:Nat}(hn:n≤l.length)(ho:okw l)(ht:top l n=0)(hr:n=0∨atw l (n - 1)≠0):(dg (val l)).length=n:=by
 rw[←gm_ hn ho ht hr,List.length_take,Nat.min_eq_left hn]
theorem ra_{l:List Nat}(ho:okw l)(h:l.length≤(dg (val l)).length):l=dg (val l):=by
 have h1:=take_dg ho
 rwa [List.take_of_length_le h] at h1
theorem ts_{l:List Nat}(ho:okw l)(h:l.length=0∨4294967296 ^ (l.length - 1)≤val l):l=dg (val l):=by
 apply ra_ ho
 rcases h with h | h
 ·omega
 ·rcases Nat.lt_or_ge (dg (val l)).length l.length with h1 | h1
  ·have h2:=cs_ (val l)
   have h3:(4294967296:Nat) ^ (dg (val l)).length≤4294967296 ^ (l.length - 1):=Nat.pow_le_pow_right (by decide) (by omega)
   omega
  ·exact h1
theorem dg_ge{n:Nat}(h:(dg n).length≠0):4294967296 ^ ((dg n).length - 1)≤n:=by
 rcases Nat.lt_or_ge n (4294967296 ^ ((dg n).length - 1)) with h1 | h1
 ·have:=bn_ h1;omega
 ·exact h1
theorem dg_snoc{l:List Nat}{x:Nat}(ho:okw l)(hx:x < 4294967296)(h0:x≠0):l ++ [x]=dg (val (l ++ [x])):=by
 refine (dg_val (.inr ?_) (f9_ ho hx)).symm
 simp[atw,List.getD_eq_getElem?_getD,h0]
theorem hr_{a b:Nat}(h:(dg a).length < (dg b).length):a < b:=by
 rcases Nat.lt_or_ge a b with h1 | h1
 ·exact h1
 ·have:=aw_ h1;omega
theorem kt_(l:List Nat)(k:Nat):val (l ++ List.replicate k 0)=val l:=by rw[fr_,fc_];simp
theorem fg_(k:Nat):okw (List.replicate k 0):=fun x hx=>by rw[List.eq_of_mem_replicate hx];decide
theorem me_{a b:List Nat}{i:Nat}(h:i < a.length):atw (a ++ b) i=atw a i:=by
 unfold atw;rw[List.getD_eq_getElem?_getD,List.getElem?_append_left h,←List.getD_eq_getElem?_getD]
theorem kv_{a b:List Nat}{i:Nat}(h:a.length≤i):atw (a ++ b) i=atw b (i - a.length):=by
 unfold atw;rw[List.getD_eq_getElem?_getD,List.getElem?_append_right h,←List.getD_eq_getElem?_getD]
theorem fl_(l:List Nat)(i j:Nat):atw (l.drop i) j=atw l (i+j):=by
 unfold atw;rw[List.getD_eq_getElem?_getD,List.getElem?_drop,←List.getD_eq_getElem?_getD]
theorem drop_atw{l:List Nat}{i:Nat}(h:i < l.length):l.drop i=atw l i :: l.drop (i+1):=by
 rw[List.drop_eq_getElem_cons h];unfold atw;rw[List.getD_eq_getElem?_getD,List.getElem?_eq_getElem h];rfl
theorem kw_(o l:List Nat)(k r:Nat)(ho:o.length=k)(hk:k < l.length):(o ++ l.drop k).set k r=(o ++ [r]) ++ l.drop (k+1):=by
 rw[drop_atw hk,List.set_append_right _ _ (by omega),ho,Nat.sub_self]
 simp
theorem k9_(o l:List Nat)(k:Nat)(ho:o.length=k):atw (o ++ l.drop k) k=atw l k:=by
 rw[kv_ (by omega),ho,Nat.sub_self,fl_];rfl
theorem add_stop{la lb o:List Nat}{k:Nat}(ho:o.length=k)(hk:lb.length≤k)(h:val o=low la k+low lb k):val (o ++ la.drop k)=val la+val lb:=by
 rw[fr_,ho,h,eg_ hk,c0_ la k];unfold top;omega
theorem sub_stop{la lb o:List Nat}{k:Nat}(ho:o.length=k)(hk:lb.length≤k)(h:low la k=low lb k+val o):val la=val lb+val (o ++ la.drop k):=by
 rw[fr_,ho,c0_ la k,h,eg_ hk];unfold top;omega
theorem low_one(l:List Nat):low l 1=atw l 0:=by have:=df_ l 0;rw[cc_] at this;simpa using this
theorem ud_{la lb o:List Nat}{k s r z:Nat}(ho:o.length=k)(h:val o+4294967296 ^ k * s=low la k+low lb k)(hr:r < 4294967296)(ht:r+4294967296 * z=s+(atw la k+atw lb k)) :
 val (o ++ [r])+4294967296 ^ (k+1) * z=low la (k+1)+low lb (k+1):=by
 have h1:=pg_ ho h rfl
 rw[←ht,show (r+4294967296 * z) % 4294967296=r by omega,show (r+4294967296 * z) / 4294967296=z by omega] at h1
 exact h1
theorem vs_{x:List Nat}{p q:Nat}(ho:okw x)(hv:val x=p+q)(hl:x.length=0∨4294967296 ^ (x.length - 1)≤p+q):x=dg (p+q):=by
 rw[←hv] at hl ⊢;exact ts_ ho hl
theorem uq_{o:List Nat}{k p q:Nat}(hok:okw o)(ho:o.length=k)(hv:val o+4294967296 ^ k * 1=p+q):o ++ [1]=dg (p+q):=by
 have:=dg_snoc hok (x:=1) (by decide) (by decide)
 rw[eu_,ho,hv] at this
 exact this
theorem oa_(ls:List (List Nat))(k:Nat):ed_ (ls.take k)≤ed_ ls:=by
 induction ls generalizing k with
 | nil=>simp
 | cons l r ih=>
   cases k with
   | zero=>simp[ed_]
   | succ k=>
     have:=ih k
     simp only[List.take_succ_cons,ed_]
     omega
theorem ih_(k:Nat):(4294967296:Nat) ^ k=2 ^ (32 * k):=by rw[Nat.pow_mul]
def blen (n:Nat):Nat:=if n=0 then 0 else n.log2+1
def tz (n:Nat):Nat:=if h:n=0 then 0 else if n % 2=1 then 0 else tz (n / 2)+1
termination_by n
decreasing_by omega
theorem ka_(n:Nat):n < 2 ^ blen n:=by
 unfold blen;split
 ·subst_vars;decide
 ·exact Nat.lt_log2_self
theorem blen_le{n k:Nat}:blen n≤k↔n < 2 ^ k:=by
 constructor
 ·intro h;exact Nat.lt_of_lt_of_le (ka_ n) (Nat.pow_le_pow_right (by decide) h)
 ·intro h
  unfold blen;split
  ·omega
  ·rename_i h0;exact (Nat.log2_lt h0).2 h
theorem rx_{n:Nat}(h:n≠0):2 ^ (blen n - 1)≤n:=by
 unfold blen;rw[if_neg h,Nat.add_sub_cancel];exact Nat.log2_self_le h
theorem k5_{n:Nat}(h:n≠0):0 < blen n:=by unfold blen;rw[if_neg h];omega
theorem pi_{n k:Nat}(h:n < 2 ^ k)(hk:k=0∨2 ^ (k - 1)≤n):blen n=k:=by
 have h1:=blen_le.2 h
 rcases hk with hk | hk
 ·omega
 ·rcases Nat.lt_or_ge (blen n) k with h2 | h2
  ·have h3:=blen_le.1 (show blen n≤k - 1 by omega)
   omega
  ·omega
theorem blen_mul{v n:Nat}(h:v≠0):blen (v * 2 ^ n)=blen v+n:=by
 have hp:0 < blen v:=k5_ h
 apply pi_
 ·rw[Nat.pow_add];exact Nat.mul_lt_mul_of_pos_right (ka_ v) (Nat.two_pow_pos n)
 ·refine .inr ?_
  rw[show blen v+n - 1=(blen v - 1)+n by omega,Nat.pow_add]
  exact Nat.mul_le_mul_right _ (rx_ h)
theorem aux_zero(f:Nat):Lib.bitLenAux f 0=0:=by cases f <;> simp[Lib.bitLenAux]
theorem nd_:∀(f x:Nat),x < 2 ^ f→x≠0→1≤Lib.bitLenAux f x∧2 ^ (Lib.bitLenAux f x - 1)≤x∧x < 2 ^ Lib.bitLenAux f x
 | 0,x,h,h0=>by simp at h;omega
 | f+1,x,h,h0=>by
   rw[Lib.bitLenAux,if_neg h0]
   by_cases h2:x / 2=0
   ·rw[h2,aux_zero]
    have:x=1:=by omega
    subst this
    simp
   ·obtain⟨a,b,c⟩:=nd_ f (x / 2) (by rw[Nat.pow_succ] at h;omega) h2
    generalize Lib.bitLenAux f (x / 2)=L at a b c ⊢
    obtain⟨k,rfl⟩:∃k,L=k+1:=⟨L - 1,by omega⟩
    simp only[Nat.add_sub_cancel] at b
    refine ⟨by omega,?_,?_⟩
    ·rw[show 1+(k+1) - 1=k+1 by omega,Nat.pow_succ];omega
    ·rw[show 1+(k+1)=k+1+1 by omega,Nat.pow_succ];omega
theorem ml_{x:Nat}(h:x < 18446744073709551616):Lib.bitLen x=blen x:=by
 by_cases h0:x=0
 ·subst h0;rfl
 ·obtain⟨a,b,c⟩:=nd_ 64 x h h0
  exact (pi_ c (.inr b)).symm
theorem tz_zero:tz 0=0:=by rw[tz];simp
theorem tz_odd{n:Nat}(h:n % 2=1):tz n=0:=by rw[tz];simp[h]
theorem rm_{n:Nat}(h0:n≠0)(h:n % 2=0):tz n=tz (n / 2)+1:=by rw[tz];simp[h0,h]
theorem tz_pow(k m:Nat):tz (2 ^ k * (2 * m+1))=k:=by
 induction k with
 | zero=>rw[Nat.pow_zero,Nat.one_mul,tz_odd (by omega)]
 | succ k ih=>
   have hp:=Nat.two_pow_pos k
   have e:2 ^ (k+1) * (2 * m+1)=2 * (2 ^ k * (2 * m+1)):=by rw[Nat.pow_succ,Nat.mul_comm (2 ^ k) 2,Nat.mul_assoc]
   have h0:2 ^ k * (2 * m+1)≠0:=Nat.ne_of_gt (Nat.mul_pos hp (by omega))
   rw[e,rm_ (by omega) (by omega),show 2 * (2 ^ k * (2 * m+1)) / 2=2 ^ k * (2 * m+1) by omega,ih]
theorem rn_(n:Nat)(h:n≠0):∃m,n=2 ^ tz n * (2 * m+1):=by
 induction n using Nat.strongRecOn with
 | _ n ih=>
   by_cases h1:n % 2=1
   ·exact⟨n / 2,by rw[tz_odd h1];omega⟩
   ·obtain⟨m,hm⟩:=ih (n / 2) (by omega) (by omega)
    refine ⟨m,?_⟩
    rw[rm_ h (by omega),Nat.pow_succ,Nat.mul_comm _ 2,Nat.mul_assoc,←hm]
    omega
theorem tz_lt{x k:Nat}(h:x≠0)(hx:x < 2 ^ k):tz x < k:=by
 obtain⟨m,hm⟩:=rn_ x h
 rcases Nat.lt_or_ge (tz x) k with h1 | h1
 ·exact h1
 ·have h2:2 ^ k≤2 ^ tz x:=Nat.pow_le_pow_right (by decide) h1
  have h3:2 ^ tz x * 1≤2 ^ tz x * (2 * m+1):=Nat.mul_le_mul_left _ (by omega)
  omega
theorem gq_(l:List Nat)(i:Nat):val l=2 ^ (32 * i) * top l i+low l i:=by rw[c0_ l i,ih_];omega
theorem od_{l:List Nat}(h:okw l)(i:Nat):low l i < 2 ^ (32 * i):=by rw[←ih_];exact l6_ h i
theorem val_bit{l:List Nat}(h:okw l)(i:Nat):(val l).testBit i=(atw l (i / 32)).testBit (i % 32):=by
 rw[gq_ l (i / 32),Nat.testBit_two_pow_mul_add _ (od_ h _),if_neg (by omega),b4_]
 have e:i - 32 * (i / 32)=i % 32:=by omega
 rw[e,Nat.add_comm,show (4294967296:Nat)=2 ^ 32 from rfl,Nat.testBit_two_pow_mul_add _ (bk_ h _),if_pos (by omega)]
theorem kz_{l:List Nat}{i:Nat}(ho:okw l)(ht:top l (i+1)=0)(h0:atw l i≠0):blen (val l)=32 * i+blen (atw l i):=by
 have hl:=od_ ho i
 have hv:val l=2 ^ (32 * i) * atw l i+low l i:=by rw[gq_ l i,b4_,ht];rfl
 have hb:=k5_ h0
 apply pi_
 ·rw[hv,Nat.pow_add]
  have h1:2 ^ (32 * i) * atw l i+2 ^ (32 * i)≤2 ^ (32 * i) * 2 ^ blen (atw l i):=by
   rw[←Nat.mul_succ];exact Nat.mul_le_mul_left _ (ka_ _)
  omega
 ·refine .inr ?_
  rw[hv,show 32 * i+blen (atw l i) - 1=32 * i+(blen (atw l i) - 1) by omega,Nat.pow_add]
  have h1:=Nat.mul_le_mul_left (2 ^ (32 * i)) (rx_ h0)
  omega
theorem tz_low{l:List Nat}{i:Nat}(ho:okw l)(hl:low l i=0)(h0:atw l i≠0):tz (val l)=32 * i+tz (atw l i):=by
 obtain⟨m,hm⟩:=rn_ _ h0
 have hx:val l=2 ^ (32 * i) * (atw l i+4294967296 * top l (i+1)):=by rw[gq_ l i,hl,b4_];rfl
 have ht:tz (atw l i) < 32:=tz_lt h0 (bk_ ho i)
 generalize atw l i=x at *
 generalize top l (i+1)=T at *
 have e:x+4294967296 * T=2 ^ tz x * (2 * (m+2 ^ (31 - tz x) * T)+1):=by
  have e1:(4294967296:Nat)=2 ^ tz x * (2 * 2 ^ (31 - tz x)):=by
   rw[show 2 * 2 ^ (31 - tz x)=2 ^ (31 - tz x+1) by rw[Nat.pow_succ,Nat.mul_comm],←Nat.pow_add,show tz x+(31 - tz x+1)=32 by omega]
  have e2:2 * (m+2 ^ (31 - tz x) * T)+1=(2 * m+1)+2 * 2 ^ (31 - tz x) * T:=by rw[Nat.mul_add,Nat.mul_assoc];omega
  rw[e2,Nat.mul_add,←hm,←Nat.mul_assoc,←e1]
 rw[hx,e,←Nat.mul_assoc,←Nat.pow_add,tz_pow]
theorem s1_(n:Int):IntKind.u32.wrap n=n % 4294967296:=by simp[IntKind.wrap,IntKind.signed,IntKind.bits]
theorem mul_words{x y:Int}(hx0:0≤x)(hx:x≤4294967295)(hy0:0≤y)(hy:y≤4294967295):0≤x * y∧x * y≤18446744065119617025:=by
 refine ⟨Int.mul_nonneg hx0 hy0,?_⟩
 have h1:x * y≤4294967295 * y:=Int.mul_le_mul_of_nonneg_right hx hy0
 omega
theorem div_word{hi lo y:Int}(h0:0≤hi)(hl0:0≤lo)(hl:lo≤4294967295)(hy:hi < y):0≤(hi * 4294967296+lo) / y∧(hi * 4294967296+lo) / y≤4294967295:=by
 refine ⟨Int.ediv_nonneg (by omega) (by omega),?_⟩
 have:(hi * 4294967296+lo) / y < 4294967296:=Int.ediv_lt_of_lt_mul (by omega) (by omega)
 omega
theorem mod_word{n y:Int}(hy0:0 < y):0≤n % y∧n % y < y:=⟨Int.emod_nonneg _ (by omega),Int.emod_lt_of_pos _ hy0⟩
theorem k6_{hi lo:Int}(h0:0≤hi)(h:hi≤4294967295)(hl0:0≤lo)(hl:lo≤4294967295):bits .or .u64 (hi * 4294967296) lo=hi * 4294967296+lo:=by
 obtain⟨a,rfl⟩:=Int.eq_ofNat_of_zero_le h0
 obtain⟨b,rfl⟩:=Int.eq_ofNat_of_zero_le hl0
 have e:(a:Int) * 4294967296=((a * 4294967296:Nat):Int):=by omega
 rw[e]
 have h1:(BitVec.ofInt 64 ((a * 4294967296:Nat):Int)).toNat=a * 4294967296:=by
  rw[BitVec.ofInt_natCast,BitVec.toNat_ofNat];exact Nat.mod_eq_of_lt (by omega)
 have h2:(BitVec.ofInt 64 (b:Int)).toNat=b:=by
  rw[BitVec.ofInt_natCast,BitVec.toNat_ofNat];exact Nat.mod_eq_of_lt (by omega)
 have h3:a * 4294967296 ||| b=a * 4294967296+b:=by
  have:=Nat.two_pow_add_eq_or_of_lt (i:=32) (b:=b) (by omega) a
  rw[Nat.mul_comm a 4294967296]
  exact this.symm
 show IntKind.u64.wrap ((BitVec.ofInt 64 ((a * 4294967296:Nat):Int) ||| BitVec.ofInt 64 (b:Int)).toNat:Int)=_
 rw[BitVec.toNat_or,h1,h2,h3,IntKind.wrap_u64]
 omega
theorem mc_(n:Nat):(dg n).length=(blen n+31) / 32:=by
 have h1:(dg n).length≤(blen n+31) / 32:=bn_ (by
  rw[ih_];exact Nat.lt_of_lt_of_le (ka_ n) (Nat.pow_le_pow_right (by decide) (by omega)))
 have h2:blen n≤32 * (dg n).length:=blen_le.2 (by rw[←ih_];exact cs_ n)
 omega
theorem r2_{l:List Nat}(h:okw l)(q:Nat):top l q=val l / 2 ^ (32 * q):=by
 have h1:=gq_ l q
 have h2:=od_ h q
 have hp:=Nat.two_pow_pos (32 * q)
 rw[h1,Nat.mul_add_div hp,Nat.div_eq_of_lt h2,Nat.add_zero]
theorem low_bit(l:List Nat)(h:okw l)(i:Nat):(val l).testBit i=decide (atw l (i / 32) / 2 ^ (i % 32) % 2=1):=by
 rw[val_bit h,Nat.testBit_eq_decide_div_mod_eq]
theorem up_step{l o:List Nat}{k q r c c' x:Nat}(ho:o.length=q+k)(h:val o+4294967296 ^ (q+k) * c=low l k * 2 ^ (32 * q+r))(hx:x+4294967296 * c'=atw l k * 2 ^ r+c) :
 val (o ++ [x])+4294967296 ^ (q+(k+1)) * c'=low l (k+1) * 2 ^ (32 * q+r):=by
 have e1:4294967296 ^ k * atw l k * 2 ^ (32 * q+r)=4294967296 ^ (q+k) * (atw l k * 2 ^ r):=by
  rw[Nat.pow_add 2,←ih_,Nat.pow_add 4294967296 q k]
  generalize 4294967296 ^ k=A
  generalize 4294967296 ^ q=B
  generalize 2 ^ r=C
  rw[Nat.mul_comm A,Nat.mul_assoc,Nat.mul_comm B A,Nat.mul_assoc A,Nat.mul_left_comm,Nat.mul_left_comm B]
 rw[eu_,ho,df_,Nat.add_mul,e1,show q+(k+1)=q+k+1 from rfl,ca_,←h]
 generalize 4294967296 ^ (q+k)=P at *
 have e2:P * x+4294967296 * P * c'=P * (atw l k * 2 ^ r)+P * c:=by
  rw[Nat.mul_comm 4294967296 P,Nat.mul_assoc,←Nat.mul_add,hx,Nat.mul_add]
 omega
theorem up_end0{o:List Nat}{v q m n:Nat}(hok:okw o)(hm:(dg v).length=m)(h0:v≠0)(hq:32 * q≤n)(ho:o.length=q+m)(h:val o=v * 2 ^ n):o=dg (v * 2 ^ n):=by
 rw[←h]
 refine ts_ hok (.inr ?_)
 have hm0:(dg v).length≠0:=fun e=>h0 (dg_nil_iff.1 e)
 have h1:=dg_ge hm0
 rw[hm] at h1 hm0
 rw[ho,h,ih_,show 32 * (q+m - 1)=32 * (m - 1)+32 * q by omega,Nat.pow_add,←ih_]
 exact Nat.mul_le_mul h1 (Nat.pow_le_pow_right (by decide) hq)
theorem up_end1{o:List Nat}{c z:Nat}(hok:okw o)(hc:c < 4294967296)(h0:c≠0)(h:val o+4294967296 ^ o.length * c=z):o ++ [c]=dg z:=by
 have h1:=dg_snoc hok hc h0
 rwa [eu_,h] at h1
theorem f6_(o:List Nat)(k y:Nat)(hk:k < o.length):val (o.set k y)+4294967296 ^ k * atw o k=val o+4294967296 ^ k * y:=by
 induction o generalizing k with
 | nil=>simp at hk
 | cons x o ih=>
   cases k with
   | zero=>simp[val,atw];omega
   | succ k=>
     have:=ih k (by simpa using hk)
     have e:atw (x :: o) (k+1)=atw o k:=by simp[atw]
     simp only[List.set_cons_succ,val]
     rw[e,ca_,Nat.mul_assoc,Nat.mul_assoc]
     omega
theorem vm_(w r:Nat)(hr:r≤31):w * 2 ^ (32 - r)=w * 2 ^ (32 - r) % 4294967296+4294967296 * (w / 2 ^ r):=by
 have e:w * 2 ^ (32 - r) / 4294967296=w / 2 ^ r:=by
  rw[show (4294967296:Nat)=2 ^ r * 2 ^ (32 - r) by rw[←Nat.pow_add,show r+(32 - r)=32 by omega],Nat.mul_div_mul_right _ _ (Nat.two_pow_pos _)]
 rw[←e];omega
theorem vf_{t:List Nat}(r:Nat):val [atw t 0 / 2 ^ r]=low t 1 / 2 ^ r:=by simp[val,low_one]
theorem down_room{t o:List Nat}{k r:Nat}(hr:r≤31)(ht:okw t)(h:val o=low t (k+1) / 2 ^ r):atw o k < 2 ^ (32 - r):=by
 have h1:=od_ ht (k+1)
 have h2:low t (k+1) / 2 ^ r < 2 ^ (32 * k) * 2 ^ (32 - r):=by
  rw[Nat.div_lt_iff_lt_mul (Nat.two_pow_pos r),←Nat.pow_add,←Nat.pow_add,show 32 * k+(32 - r)+r=32 * (k+1) by omega]
  exact h1
 rw[←h] at h2
 have h3:2 ^ (32 * k) * atw o k≤val o:=by
  rw[gq_ o k,b4_,Nat.mul_add];omega
 exact Nat.lt_of_mul_lt_mul_left (Nat.lt_of_le_of_lt h3 h2)
theorem down_or{x w r:Nat}(hr:r≤31)(hx:x < 2 ^ (32 - r)):x ||| (w * 2 ^ (32 - r) % 4294967296)=x+w * 2 ^ (32 - r) % 4294967296∧x+w * 2 ^ (32 - r) % 4294967296 < 4294967296:=by
 have e0:(4294967296:Nat)=2 ^ (32 - r) * 2 ^ r:=by rw[←Nat.pow_add,show 32 - r+r=32 by omega]
 have e1:w * 2 ^ (32 - r) % 4294967296=2 ^ (32 - r) * (w % 2 ^ r):=by rw[e0,Nat.mul_comm w,Nat.mul_mod_mul_left]
 rw[e1]
 constructor
 ·have:=Nat.two_pow_add_eq_or_of_lt hx (w % 2 ^ r)
  rw[Nat.or_comm,←this,Nat.add_comm]
 ·have h1:w % 2 ^ r < 2 ^ r:=Nat.mod_lt _ (Nat.two_pow_pos r)
  have h2:2 ^ (32 - r) * (w % 2 ^ r)+2 ^ (32 - r)≤2 ^ (32 - r) * 2 ^ r:=by rw[←Nat.mul_succ];exact Nat.mul_le_mul_left _ h1
  omega
theorem down_step{t o:List Nat}{k r:Nat}(hr:r≤31)(ho:o.length=k+1)(h:val o=low t (k+1) / 2 ^ r) :
 val (o.set k (atw o k+atw t (k+1) * 2 ^ (32 - r) % 4294967296) ++ [atw t (k+1) / 2 ^ r])=low t (k+1+1) / 2 ^ r:=by
 have hs:=f6_ o k (atw o k+atw t (k+1) * 2 ^ (32 - r) % 4294967296) (by omega)
 have hw:=vm_ (atw t (k+1)) r hr
 have e:low t (k+1+1) / 2 ^ r=low t (k+1) / 2 ^ r+4294967296 ^ k * (atw t (k+1) * 2 ^ (32 - r)):=by
  rw[df_ t (k+1)]
  have e1:4294967296 ^ (k+1) * atw t (k+1)=2 ^ r * (4294967296 ^ k * (atw t (k+1) * 2 ^ (32 - r))):=by
   rw[ca_,show (4294967296:Nat) * 4294967296 ^ k=2 ^ r * 2 ^ (32 - r) * 4294967296 ^ k by rw[←Nat.pow_add,show r+(32 - r)=32 by omega]]
   generalize 2 ^ (32 - r)=A
   generalize 4294967296 ^ k=B
   rw[Nat.mul_assoc,Nat.mul_assoc,Nat.mul_left_comm A,Nat.mul_comm A]
  rw[e1,Nat.add_mul_div_left _ _ (Nat.two_pow_pos r)]
 rw[eu_,List.length_set,ho,e,←h,ca_]
 generalize atw t (k+1) * 2 ^ (32 - r)=W at *
 generalize W % 4294967296=a at *
 generalize atw t (k+1) / 2 ^ r=b at *
 subst hw
 rw[Nat.mul_add] at hs ⊢
 rw[Nat.mul_comm 4294967296 (4294967296 ^ k),Nat.mul_assoc]
 omega
theorem vt_(o z:List Nat)(x y k:Nat)(hk:k < o.length):((o ++ [x]) ++ z).set k y=(o.set k y ++ [x]) ++ z:=by
 rw[List.set_append_left _ _ (by simp;omega),List.set_append_left _ _ hk]
theorem pw_{l:List Nat}(h:okw l)(q r:Nat):top l q / 2 ^ r=val l / 2 ^ (32 * q+r):=by
 rw[r2_ h,Nat.div_div_eq_div_mul,←Nat.pow_add]
theorem mod_next(X i:Nat):X % 2 ^ (i+1)=X % 2 ^ i+2 ^ i * (X.testBit i).toNat:=by
 rw[Nat.pow_succ,Nat.mod_mul,Nat.testBit_eq_decide_div_mod_eq]
 congr 2
 rcases Nat.mod_two_eq_zero_or_one (X / 2 ^ i) with h | h <;> simp[h]
theorem lt_of_bit{v p:Nat}(h:v < 2 ^ (p+1))(hb:v.testBit p=false):v < 2 ^ p:=by
 have h1:=mod_next v p
 rw[hb,Nat.mod_eq_of_lt h] at h1
 have h2:v % 2 ^ p < 2 ^ p:=Nat.mod_lt _ (Nat.two_pow_pos p)
 simp at h1
 omega
theorem vy_(x y:Nat)(hx:x < 4294967296)(hy:y < 4294967296):bits .or .u32 (x:Int) (y:Int)=((x ||| y:Nat):Int):=by
 have h1:(BitVec.ofInt 32 (x:Int)).toNat=x:=by rw[BitVec.ofInt_natCast,BitVec.toNat_ofNat];exact Nat.mod_eq_of_lt (by omega)
 have h2:(BitVec.ofInt 32 (y:Int)).toNat=y:=by rw[BitVec.ofInt_natCast,BitVec.toNat_ofNat];exact Nat.mod_eq_of_lt (by omega)
 have h3:x ||| y < 2 ^ 32:=Nat.or_lt_two_pow (by omega) (by omega)
 show IntKind.u32.wrap ((BitVec.ofInt 32 (x:Int) ||| BitVec.ofInt 32 (y:Int)).toNat:Int)=_
 rw[BitVec.toNat_or,h1,h2,s1_]
 omega
theorem fx_(x r:Nat):(x:Int) / 2 ^ r=((x / 2 ^ r:Nat):Int):=by rw[Int.natCast_ediv,Int.natCast_pow];rfl
theorem if_(x r:Nat):(x:Int) * 2 ^ r=((x * 2 ^ r:Nat):Int):=by rw[Int.natCast_mul,Int.natCast_pow];rfl
theorem nc_{x:Nat}(h:x < 4294967296)(r:Nat):x / 2 ^ r < 4294967296:=Nat.lt_of_le_of_lt (Nat.div_le_self _ _) h
theorem en_{l:List Nat}{k j y:Nat}(h:j≠k):atw (l.set k y) j=atw l j:=by
 unfold atw
 rw[List.getD_eq_getElem?_getD,List.getD_eq_getElem?_getD,List.getElem?_set_ne (Ne.symm h)]
theorem qx_(n k:Nat):atw (List.replicate n 0) k=0:=by
 unfold atw
 rw[List.getD_eq_getElem?_getD,List.getElem?_replicate]
 split <;> rfl
def vv_ (A B P:List Nat) (m i:Nat):Prop:=val P=low A i * val B∧∀k,i+m≤k→atw P k=0
def nx_ (A B P:List Nat) (m i j c:Nat):Prop:=val P+4294967296 ^ (i+j) * c=low A i * val B+4294967296 ^ i * (atw A i * low B j)∧∀k,i+m≤k→atw P k=0
theorem qh_(A B:List Nat)(n m:Nat):vv_ A B (List.replicate n 0) m 0:=⟨by rw[fc_,cc_,Nat.zero_mul],fun k _=>qx_ n k⟩
theorem n0_{A B P:List Nat}{m i:Nat}(h:vv_ A B P m i):nx_ A B P m i 0 0:=⟨by rw[h.1,cc_];simp,h.2⟩
theorem qq_{A B P:List Nat}{m i j c lo hi:Nat}(h:nx_ A B P m i j c)(hj:j < m)(hP:i+j < P.length)(hs:lo+4294967296 * hi=atw A i * atw B j+(atw P (i+j)+c)):nx_ A B (P.set (i+j) lo) m i (j+1) hi:=by
 refine ⟨?_,fun k hk=>by rw[en_ (by omega)];exact h.2 k hk⟩
 have h1:=f6_ P (i+j) lo hP
 have h2:=h.1
 have h3:4294967296 ^ (i+j) * lo+4294967296 ^ (i+j) * (4294967296 * hi)=4294967296 ^ (i+j) * (atw A i * atw B j)+(4294967296 ^ (i+j) * atw P (i+j)+4294967296 ^ (i+j) * c):=by
  rw[←Nat.mul_add,hs,Nat.mul_add,Nat.mul_add]
 have h4:4294967296 ^ (i+(j+1)) * hi=4294967296 ^ (i+j) * (4294967296 * hi):=by rw[←Nat.add_assoc,Nat.pow_succ,Nat.mul_assoc]
 have h5:4294967296 ^ i * (atw A i * low B (j+1))=4294967296 ^ i * (atw A i * low B j)+4294967296 ^ (i+j) * (atw A i * atw B j):=by
  rw[df_,Nat.mul_add,Nat.mul_add,Nat.pow_add,Nat.mul_left_comm (atw A i),←Nat.mul_assoc (4294967296 ^ i) (4294967296 ^ j)]
 rw[h4,h5]
 generalize val (P.set (i+j) lo)=a1 at *
 generalize 4294967296 ^ (i+j) * lo=a2 at *
 generalize 4294967296 ^ (i+j) * (4294967296 * hi)=a3 at *
 generalize 4294967296 ^ (i+j) * (atw A i * atw B j)=a4 at *
 generalize 4294967296 ^ (i+j) * atw P (i+j)=a5 at *
 generalize 4294967296 ^ (i+j) * c=a6 at *
 generalize low A i * val B=a7 at *
 generalize 4294967296 ^ i * (atw A i * low B j)=a8 at *
 omega
theorem te_{A B P:List Nat}{m i c:Nat}(h:nx_ A B P m i m c)(hB:B.length=m)(hP:i+m < P.length):vv_ A B (P.set (i+m) c) m (i+1):=by
 refine ⟨?_,fun k hk=>by rw[en_ (by omega)];exact h.2 k (by omega)⟩
 have h1:=f6_ P (i+m) c hP
 have h2:=h.1
 rw[h.2 (i+m) (Nat.le_refl _),Nat.mul_zero,Nat.add_zero] at h1
 rw[eg_ (l:=B) (i:=m) (by omega)] at h2
 rw[h1,h2,df_,Nat.add_mul,Nat.mul_assoc]
theorem row_end{A B P:List Nat}{m i:Nat}(h:vv_ A B P m i)(hA:A.length=i):val P=val A * val B:=by rw[h.1,eg_ (by omega)]
theorem mul_room{x y u c:Nat}(hx:x < 4294967296)(hy:y < 4294967296)(hu:u < 4294967296)(hc:c < 4294967296):x * y≤18446744065119617025∧x * y+(u+c) < 18446744073709551616:=by
 have h1:x * y≤4294967295 * 4294967295:=Nat.mul_le_mul (by omega) (by omega)
 omega
theorem word_step{l o:List Nat}{k x c hi lo:Nat}{d:Nat}(ho:o.length=k)(h:val o+4294967296 ^ k * c=low l k * x+d)(hs:lo+4294967296 * hi=atw l k * x+c) :
 val (o ++ [lo])+4294967296 ^ (k+1) * hi=low l (k+1) * x+d:=by
 have h3:4294967296 ^ k * lo+4294967296 ^ k * (4294967296 * hi)=4294967296 ^ k * (atw l k * x)+4294967296 ^ k * c:=by rw[←Nat.mul_add,hs,Nat.mul_add]
 have h4:4294967296 ^ (k+1) * hi=4294967296 ^ k * (4294967296 * hi):=by rw[Nat.pow_succ,Nat.mul_assoc]
 rw[eu_,ho,h4,df_,Nat.add_mul,Nat.mul_assoc]
 generalize 4294967296 ^ k * lo=a2 at *
 generalize 4294967296 ^ k * (4294967296 * hi)=a3 at *
 generalize 4294967296 ^ k * (atw l k * x)=a4 at *
 generalize 4294967296 ^ k * c=a6 at *
 generalize low l k * x=a7 at *
 omega
theorem bp_(a b:Nat):(dg (a * b)).length≤(dg a).length+(dg b).length:=by
 apply bn_
 rw[Nat.pow_add]
 have h1:=cs_ a
 have h2:=cs_ b
 exact Nat.mul_lt_mul'' h1 h2
theorem ep_(a b:Nat):(dg (a+b)).length≤(dg a).length+(dg b).length+1:=by
 apply bn_
 rw[ca_,Nat.pow_add]
 have h1:=cs_ a
 have h2:=cs_ b
 have h3:=ms_ (dg a).length
 have h4:=ms_ (dg b).length
 generalize 4294967296 ^ (dg a).length=p at *
 generalize 4294967296 ^ (dg b).length=q at *
 have h5:p≤p * q:=Nat.le_mul_of_pos_right _ h4
 have h6:q≤p * q:=Nat.le_mul_of_pos_left _ h3
 omega
end Go.Proofs.YtocebjbjnfammaaGreat
