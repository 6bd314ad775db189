import Derived.Test.YtocebjbjnfammaaGreatTG6
import Derived.Deep.AppendLies
import Derived.Test.YtocebjbjnfammaaGreatTG3
import Derived.Test.YtocebjbjnfammaaGreatTG1
set_option maxRecDepth 4096
set_option maxHeartbeats 16000000
namespace Go.Proofs.YtocebjbjnfammaaGreat
open Go.RowKit
theorem eq_{L:List Fx}{k:Nat}(h:k < L.length):L.getD k Fx.zero∈L:=by
 rw[List.getD_eq_getElem?_getD,List.getElem?_eq_getElem h];exact List.getElem_mem h
theorem l4_{L:List Fx}{k:Nat}(h:k < L.length):L.take (k+1)=L.take k ++ [L.getD k Fx.zero]:=by
 rw[List.take_succ_eq_append_getElem h,List.getD_eq_getElem?_getD,List.getElem?_eq_getElem h];rfl
theorem fq_{L:List Rat}{k:Nat}(h:k < L.length):L.getD k 0∈L:=by
 rw[List.getD_eq_getElem?_getD,List.getElem?_eq_getElem h];exact List.getElem_mem h
theorem f9_{L:List Rat}{k:Nat}(h:k < L.length):L.take (k+1)=L.take k ++ [L.getD k 0]:=by
 rw[List.take_succ_eq_append_getElem h,List.getD_eq_getElem?_getD,List.getElem?_eq_getElem h];rfl
theorem di_{L:List Fx}{k:Nat}(h:k < L.length):(fqs L).getD k 0=(L.getD k Fx.zero).q:=by
 rw[List.getD_eq_getElem?_getD,fqs_at L k h];rfl
theorem cl_{α:Type}{L:List α}{k:Nat}(h:k≤L.length):(L.take k).length=k:=by rw[List.length_take];omega
theorem an_{w w':World}{p q r:Addr}{x y z:Value}(h:w.cell? p=some x∧w.cell? q=some y∧w.cell? r=some z)(hb:Below w.heap.size w w'):w'.cell? p=some x∧w'.cell? q=some y∧w'.cell? r=some z:=⟨cell_later hb h.1,cell_later hb h.2.1,cell_later hb h.2.2⟩
theorem Rw.at{w:World}{a:Option Addr}{n cap:Nat}{qs:List Rat}(h:Rw w a n cap qs){j:Nat}(hj:j < n):∃b off,a=some ⟨b,off,none⟩∧∃(a':OA_) (n' c':Nat) (b':OA_) (m' d':Nat),
 (w.cell? ⟨b,off+j * 3,none⟩=some (.bool (zneg (qs.getD j 0).num))∧w.cell? ⟨b,off+j * 3+1,none⟩=some (.slice a' n' c')∧w.cell? ⟨b,off+j * 3+2,none⟩=some (.slice b' m' d'))∧
 Wd w a' n' c' (dg (qs.getD j 0).num.natAbs)∧Wd w b' m' d' (dg (qs.getD j 0).den):=by
 obtain⟨L,h1,h2,h3⟩:=h
 obtain⟨b,off,rfl,e0,e1,e2,hok⟩:=h1.at hj
 have hl:j < L.length:=by rw[h1.len];exact hj
 have hq:qs.getD j 0=(L.getD j Fx.zero).q:=by rw[←h2];exact di_ hl
 obtain⟨r1,r2,r3⟩:=h3 _ (eq_ hl)
 rw[hq,←r1,←r2,←r3]
 exact⟨b,off,rfl,_,_,_,_,_,_,⟨e0,e1,e2⟩,hok.1,hok.2⟩
theorem Rw.bound{w:World}{a:Option Addr}{n cap:Nat}{qs:List Rat}(h:Rw w a n cap qs):n≤cap∧cap≤9223372036854775807:=by
 obtain⟨L,h1,_⟩:=h
 exact h1.bound
theorem Rw.nil(w:World):Rw w none 0 0 []:=⟨[],⟨rfl,Nat.le_refl _,by omega,fun _=>rfl,fun x hx=>by (simp at hx),.inl rfl⟩,rfl,fun x hx=>by simp at hx⟩
def Cop (w:World) (base:Nat) (e:TypeId) (v:Value) (L:List Fx):Prop:=OwnC w base e v L∧∀x∈L,x.ok w
theorem Cop.nil(w:World)(base:Nat)(e:TypeId):Cop w base e (.slice none 0 0) []:=⟨OwnC.nil _ _ _,fun x hx=>by simp at hx⟩
theorem Cop.later{w w':World}{base:Nat}{e:TypeId}{v:Value}{L:List Fx}(h:Cop w base e v L)(hb:Below w.heap.size w w'):Cop w' base e v L:=⟨h.1.later hb,fun x hx=>(h.2 x hx).later hb⟩
theorem Cop.l_ {w w':World}{x0 x1 x2 x3}(h:Cop w x0 x1 x2 x3)(b:Below w.heap.size w w'):Hid (Cop w' x0 x1 x2 x3):=Lib.hid (h.later b)
theorem Cop.out{w:World}{base:Nat}{e:TypeId}{v:Value}{L:List Fx}(h:Cop w base e v L):∃(a:OA_) (cap:Nat),v=.slice a L.length cap∧Fxs w a L.length cap L:=h.1.slice h.2
theorem gz_{P:Program}(w:World){ops:Array Oper}{rest:List Oper}{o:Oper}{act:Act}{Q:Exit→Act→World→Prop}(hgd:o.guard=none)(s x:Operand)(t:TypeId)
 (ho:o.op=.call { callee:=.builtin .append,args:=#[s,x],argTypes:=#[t,t] })
 (base:Nat) (e:TypeId) (i:TypeInfo) (ht:P.underlying t=some (.slice e)) (hi:P.info? e=some i) (hz:i.zero=some (.agg #[.bool false,.slice none 0 0,.slice none 0 0]))
 (hsize:i.size=3) (hby:i.bytes=56) (v:Value) (L:List Fx) (hs:act.eval s=v) (hrow:Cop w base e v L)
 (ad:Addr) (y:Fx) (hx:act.eval x=.slice (some ad) 1 1)
 (hnews:∀j u,y.cells[j]? = some u→w.cell? (ad.add j)=some u) (hy:y.ok w)
 (hlen:L.length≤1000000) (hbase:base≤w.heap.size)
 (h:∀v' w',Cop w' base e v' (L ++ [y])→w.grownBy w' v.ownBlock→(∀k,v.ownBlock=some k→base≤k)→clean w v→wpList P ops Q rest (act.put o.dst v') w'):wpList P ops Q (o :: rest) act w:=by
 obtain⟨h1,h3⟩:=hrow
 have hzw:c9_ (Value.agg #[.bool false,.slice none 0 0,.slice none 0 0]).cells.toList:=by
  intro u hu k
  simp[Value.cells] at hu
  rcases hu with rfl | rfl <;> simp
 refine em_ w hgd s x t ho base e i (.agg #[.bool false,.slice none 0 0,.slice none 0 0]) 3 56 ht hi hz hsize hby rfl (by decide) v L.length (L.flatMap Fx.cells) hs h1.1 ad 1 1 y.cells hx rfl hnews (ht_ _) (by unfold maxLen;omega) (by omega) hbase (by decide) h1.2 hzw (fo_ _) (dm_ _) ?_
 intro v' w' hown hgrow hcl
 refine h v' w' ⟨⟨by simpa [List.flatMap_append] using hown,hcl⟩,fun z hz=>?_⟩ hgrow (fun k hk=>h1.base k hk) h1.2
 rcases List.mem_append.1 hz with hz | hz
 ·exact Fx.aside (h3 z hz) h1.2 hgrow
 ·rw[List.mem_singleton.1 hz]
  exact Fx.aside hy h1.2 hgrow
theorem c1_{w:World}{g k cap j:Nat}{u x:Value}(h:clean w (.slice (some ⟨g,0,none⟩) k cap))(hx:w.cell? ⟨g,j,none⟩=some x)(hu:∀y:Int,u≠.int .u32 y):clean (w.setCell ⟨g,j,none⟩ u) (.slice (some ⟨g,0,none⟩) k cap):=by
 intro g' hg' i y hc
 have h2:=h g' hg' i y
 simp[Value.ownBlock] at hg'
 subst hg'
 by_cases hij:i=j
 ·subst hij
  rw[World.cell?_setCell_same _ _ _ hx] at hc
  exact hu y (Option.some.inj hc)
 ·rw[World.cell?_setCell_other _ ⟨g,j,none⟩ ⟨g,i,none⟩ _ (fun e=>hij (congrArg Addr.off e).symm)] at hc
  exact h2 hc
theorem ga_:∀(L:List Fx) (i:Nat) (x:Fx),i < L.length→(L.set i x).flatMap Fx.cells=(((L.flatMap Fx.cells).set (i * 3) (.bool x.s)).set (i * 3+1) (.slice x.a x.n x.c)).set (i * 3+2) (.slice x.b x.m x.d)
 | [],_,_,h=>by simp at h
 | y :: L,0,x,_=>by simp[Fx.cells]
 | y :: L,i+1,x,h=>by
   have h1:=ga_ L i x (by simpa using h)
   have h2:(y :: L).flatMap Fx.cells=.bool y.s :: .slice y.a y.n y.c :: .slice y.b y.m y.d :: L.flatMap Fx.cells:=by simp[Fx.cells]
   rw[h2,List.set_cons_succ,List.flatMap_cons,h1]
   have e0:(i+1) * 3=i * 3+1+1+1:=by omega
   rw[e0]
   simp[Fx.cells]
theorem Row.stored{w:World}{base:Nat}{e:TypeId}{g k cap:Nat}{qs:List Rat}(h:Row w base e (.slice (some ⟨g,0,none⟩) k cap) qs)(hk:k=qs.length){i:Nat}(hi:i < qs.length)(q:Rat)(a:OA_)(n c:Nat)(b:OA_)(m d:Nat)(ha:Wd w a n c (dg q.num.natAbs))(hb:Wd w b m d (dg q.den)) :
 Row (((w.setCell ⟨g,i * 3,none⟩ (.bool (zneg q.num))).setCell ⟨g,i * 3+1,none⟩ (.slice a n c)).setCell ⟨g,i * 3+2,none⟩ (.slice b m d)) base e (.slice (some ⟨g,0,none⟩) k cap) (qs.set i q)∧
 w.grownBy (((w.setCell ⟨g,i * 3,none⟩ (.bool (zneg q.num))).setCell ⟨g,i * 3+1,none⟩ (.slice a n c)).setCell ⟨g,i * 3+2,none⟩ (.slice b m d)) (some g):=by
 obtain⟨L,⟨h1,h2⟩,h3,h4⟩:=h
 have hL:L.length=qs.length:=by rw[←h3,List.length_map]
 have hkL:k=L.length:=hk.trans hL.symm
 subst hkL
 have hf:=b3_ L
 obtain⟨c0,c1,c2⟩:=gb_ L i (by omega)
 have p0:=h1.cellAt (i * 3) (by omega)
 have p1:=h1.cellAt (i * 3+1) (by omega)
 have p2:=h1.cellAt (i * 3+2) (by omega)
 rw[c0] at p0;rw[c1] at p1;rw[c2] at p2
 obtain⟨s0,g0⟩:=h1.stored (i * 3) (.bool (zneg q.num))
 obtain⟨s1,g1⟩:=s0.stored (i * 3+1) (.slice a n c)
 obtain⟨s2,g2⟩:=s1.stored (i * 3+2) (.slice b m d)
 have l0:=c1_ (j:=i * 3) (u:=.bool (zneg q.num)) h2 p0 (fun y e=>by cases e)
 have l1:=c1_ (j:=i * 3+1) (u:=.slice a n c) l0 ((World.cell?_setCell_other _ ⟨g,i * 3,none⟩ ⟨g,i * 3+1,none⟩ _ (fun e=>by simp at e)).trans p1) (fun y e=>by cases e)
 have l2:=c1_ (j:=i * 3+2) (u:=.slice b m d) l1 (((World.cell?_setCell_other _ ⟨g,i * 3+1,none⟩ ⟨g,i * 3+2,none⟩ _ (fun e=>by simp at e)).trans (World.cell?_setCell_other _ ⟨g,i * 3,none⟩ ⟨g,i * 3+2,none⟩ _ (fun e=>by simp at e))).trans p2) (fun y e=>by cases e)
 have hg:=(g0.trans g1).trans g2
 refine ⟨⟨L.set i (rx q a n c b m d),⟨?_,l2⟩,?_,fun x hx=>?_⟩,hg⟩
 ·rw[ga_ L i _ (by omega),List.length_set]
  exact s2
 ·rw[List.map_set,rx_q,h3]
 ·rcases List.mem_or_eq_of_mem_set hx with hx | rfl
  ·exact⟨Fx.aside (h4 x hx).1 h2 hg,(h4 x hx).2⟩
  ·exact⟨⟨ha.aside h2 hg,hb.aside h2 hg⟩,dr_ _ _ _ _ _ _ _⟩
theorem Row.block{w:World}{base:Nat}{e:TypeId}{v:Value}{qs:List Rat}(h:Row w base e v qs):∀k,v.ownBlock=some k→base≤k∧k < w.heap.size:=by
 obtain⟨L,h1,_⟩:=h
 exact h1.1.lt
def LstRow (e9:TypeId) (qs:LR_) (w:World) (e:Ending) (w':World):Prop:=∃v,e=.returned v∧Row w' w.heap.size e9 v qs∧Below w.heap.size w w'
theorem LstRow.out{e9:TypeId}{qs:List Rat}{w w':World}{e:Ending}(h:LstRow e9 qs w e w'):b5_ qs w e w':=by
 obtain⟨v,rfl,h,hb⟩:=h
 obtain⟨a,cap,rfl,h9⟩:=h.out
 exact⟨a,_,cap,rfl,h9,hb⟩
def thinI (N:Int) (L:List Fx):Prop:=∀x∈L,(x.n:Int)≤N∧(x.m:Int)≤N
theorem thinI.out{N:Nat}{L:List Fx}(h:thinI (N:Int) L):thin N L:=fun x hx=>by
 have:=h x hx
 omega
theorem Row.whole{w:World}{base:Nat}{e:TypeId}{v:Value}{T:List Rat}{k:Nat}(h:Row w base e v (T.take k))(hk:T.length=k):Row w base e v T:=by
 rwa [List.take_of_length_le (Nat.le_of_eq hk)] at h
theorem Cop.whole{w:World}{base:Nat}{e:TypeId}{v:Value}{T:List Fx}{k:Nat}(h:Cop w base e v (T.take k))(hk:T.length=k):Cop w base e v T:=by
 rwa [List.take_of_length_le (Nat.le_of_eq hk)] at h
theorem Row.form{w:World}{base:Nat}{e:TypeId}{v:Value}{qs:List Rat}(h:Row w base e v qs)(hn:0 < qs.length):∃g cap,v=.slice (some ⟨g,0,none⟩) qs.length cap∧base≤g∧g < w.heap.size:=by
 obtain⟨L,⟨h1,_⟩,h3,_⟩:=h
 have hL:L.length=qs.length:=by rw[←h3,List.length_map]
 obtain⟨g,cap,h5,h6,h7⟩:=h1.form (by omega)
 exact⟨g,cap,by rw[h5,hL],h6,h7⟩
theorem Row.free{w:World}{base:Nat}{e:TypeId}{g k cap:Nat}{qs:List Rat}(h:Row w base e (.slice (some ⟨g,0,none⟩) k cap) qs)(hk:k=qs.length){i:Nat}(hi:i < qs.length) :
 ∃x y z,(w.cell? ⟨g,i * 3,none⟩=some x∧w.cell? ⟨g,i * 3+1,none⟩=some y∧w.cell? ⟨g,i * 3+2,none⟩=some z)∧w.frozen? ⟨g,i * 3,none⟩=false∧w.frozen? ⟨g,i * 3+1,none⟩=false∧w.frozen? ⟨g,i * 3+2,none⟩=false:=by
 obtain⟨L,⟨h1,_⟩,h3,_⟩:=h
 have hL:L.length=qs.length:=by rw[←h3,List.length_map]
 have hkL:k=L.length:=hk.trans hL.symm
 subst hkL
 obtain⟨c0,c1,c2⟩:=gb_ L i (by omega)
 have p0:=h1.cellAt (i * 3) (by omega)
 have p1:=h1.cellAt (i * 3+1) (by omega)
 have p2:=h1.cellAt (i * 3+2) (by omega)
 rw[c0] at p0;rw[c1] at p1;rw[c2] at p2
 exact⟨_,_,_,⟨p0,p1,p2⟩,h1.frozenAt _,h1.frozenAt _,h1.frozenAt _⟩
theorem in_{w:World}{b b':Nat}{e:TypeId}{v:Value}{qs:List Rat}(h:Row w b e v qs)(hb:b'≤b):Row w b' e v qs:=by
 obtain⟨L,⟨⟨h1,h2⟩,h3⟩,h4⟩:=h
 refine ⟨L,⟨⟨h1,?_⟩,h3⟩,h4⟩
 rcases h2 with h2 | ⟨g,cap,cur,e1,hg,h5⟩
 ·exact .inl h2
 ·exact .inr ⟨g,cap,cur,e1,Nat.le_trans hb hg,h5⟩
theorem ip_{T:Nat}:∀(n:Nat) (f:Nat→Rat),(∀i,i < n→qlen (f i)≤T)→qlen (ca_ n f)≤1+n * (T+2)
 | 0,_,_=>by
   show qlen 0≤_
   rw[cw_];omega
 | n+1,f,h=>by
   have h1:=ip_ n f (fun i hi=>h i (by omega))
   have h2:=h n (by omega)
   have h3:=fm_ (ca_ n f) (f n)
   show qlen (ca_ n f+f n)≤_
   rw[Nat.add_mul];omega
theorem fu_{n m:Nat}{f:Nat→Rat}(hm:m≤n)(h:∀i,m≤i→i < n→f i=0):ca_ n f=ca_ m f:=by
 induction n with
 | zero=>rw[show m=0 by omega]
 | succ n ih=>
   by_cases hmn:m=n+1
   ·rw[hmn]
   ·show ca_ n f+f n=_
    rw[ih (by omega) (fun i h1 h2=>h i h1 (by omega)),h n (by omega) (by omega)];grind
theorem op_:∀(n:Nat) (f:Nat→Rat),ca_ (n+1) f=ca_ (n+1) (fun i=>f (n - i))
 | 0,f=>rfl
 | n+1,f=>by
   rw[g6_ (n+1) (fun i=>f (n+1 - i))]
   show ca_ (n+1) f+f (n+1)=f (n+1 - 0)+_
   rw[bv_ (n:=n+1) (f:=fun k=>f (n+1 - (k+1))) (g:=fun k=>f (n - k)) (fun k _=>by rw[Nat.add_sub_add_right]),←op_ n f,Nat.sub_zero];grind
theorem ml_(a b:LR_):peq (pmul a b) (pmul b a):=fun n=>by
 rw[c3_,c3_,op_ n (fun i=>co b i * co a (n - i))]
 exact bv_ fun i hi=>by rw[show n - (n - i)=i by omega,Rat.mul_comm]
theorem cv_{A:Nat}{a:List Rat}(hA:1≤A)(h:∀q∈a,qlen q≤A)(i:Nat):qlen (co a i)≤A:=by
 rcases Nat.lt_or_ge i a.length with h1 | h1
 ·exact h _ (fq_ h1)
 ·rw[da_ h1,cw_];exact hA
theorem co_{K:Nat}{a:List Rat}(h:∀i,qlen (co a i)≤K):∀q∈a,qlen q≤K:=fun q hq=>by
 obtain⟨i,hi,rfl⟩:=List.getElem_of_mem hq
 have:=h i
 unfold co at this
 rwa [List.getD_eq_getElem?_getD,List.getElem?_eq_getElem hi] at this
theorem fa_(a:LR_)(i:Nat):co (ah_ a) i=co a i:=au_ a i
theorem gw_{A B:Nat}{a b:List Rat}(hA:1≤A)(hB:1≤B)(ha:∀q∈a,qlen q≤A)(hb:∀q∈b,qlen q≤B):∀q∈ah_ (pmul a b),qlen q≤1+a.length * (A+B+3):=co_ fun i=>by
 rw[fa_,c3_]
 rcases Nat.lt_or_ge i a.length with h | h
 ·refine Nat.le_trans (ip_ (T:=A+B+1) (i+1) _ (fun k _=>Nat.le_trans (ci_ _ _) (Nat.add_le_add_right (Nat.add_le_add (cv_ hA ha k) (cv_ hB hb _)) 1))) ?_
  exact Nat.add_le_add_left (Nat.mul_le_mul_right _ h) 1
 ·rw[fu_ (m:=a.length) (by omega) (fun k h1 _=>by rw[da_ h1];grind)]
  exact ip_ (T:=A+B+1) _ _ (fun k _=>Nat.le_trans (ci_ _ _) (Nat.add_le_add_right (Nat.add_le_add (cv_ hA ha k) (cv_ hB hb _)) 1))
theorem n6_{A:Nat}{a:List Rat}(hA:1≤A)(hl:a.length≤1000000)(ha:∀q∈a,qlen q≤A):∀q∈ah_ (bw_ a),qlen q≤A+3:=co_ fun i=>by
 rw[fa_,dk_]
 rcases Nat.lt_or_ge (i+1) a.length with h | h
 ·have h1:qlen (((i+1:Nat):Rat))≤2:=b4_ (z:=((i+1:Nat):Int)) (by unfold f6_;omega)
  have h2:=ci_ (((i+1:Nat):Rat)) (co a (i+1))
  have h3:=cv_ hA ha (i+1)
  omega
 ·rw[da_ h,show ((i+1:Nat):Rat) * 0=0 by grind,cw_];omega
theorem b7_:∀a b:LR_,(pmul a b).length≤a.length+b.length
 | [],b=>by rw[pmul];simp
 | x :: a,b=>by
   have h:=b7_ a b
   have h2:∀c d:LR_,(padd c d).length≤max c.length d.length:=by
    intro c
    induction c with
    | nil=>intro d;rw[padd];simp
    | cons y c ih=>
      intro d
      cases d with
      | nil=>
        rw[padd]
        ·simp
        ·simp
      | cons z d=>
        have:=ih d
        rw[padd,List.length_cons,List.length_cons,List.length_cons];omega
   rw[pmul]
   refine Nat.le_trans (h2 _ _) ?_
   rw[a9_,List.length_cons,List.length_cons];omega
theorem fz_:∀c d:LR_,(padd c d).length≤max c.length d.length:=by
 intro c
 induction c with
 | nil=>intro d;rw[padd];simp
 | cons y c ih=>
   intro d
   cases d with
   | nil=>
     rw[padd]
     ·simp
     ·simp
   | cons z d=>
     have:=ih d
     rw[padd,List.length_cons,List.length_cons,List.length_cons];omega
theorem fd_(a:LR_):(bw_ a).length≤a.length:=by
 have h:∀(l:LR_) (k:Nat),(fx_ k l).length=l.length:=by
  intro l
  induction l with
  | nil=>intro k;rfl
  | cons x l ih=>intro k;rw[fx_,List.length_cons,List.length_cons,ih]
 unfold bw_
 rw[h]
 cases a with
 | nil=>exact Nat.le_refl _
 | cons x l=>simp
theorem a0_{a:List Rat}(h:ah_ a=a):plen a=a.length:=by unfold plen;rw[h]
def LstDiv (A B:LR_) (K:Nat) (w:World) (e:Ending) (w':World):Prop:=∃(a:OA_) (n c:Nat) (q:LR_) (b:OA_) (m d:Nat) (r:LR_),e=.returned (.tuple #[.slice a n c,.slice b m d,.bool true])∧Rw w' a n c q∧Rw w' b m d r∧isDiv A B q r∧ah_ q=q∧ah_ r=r∧(∀x∈q,qlen x≤K)∧(∀x∈r,qlen x≤K)∧Below w.heap.size w w'
theorem pigeon:∀(K:Nat) (f:Nat→Nat),(∀c,c≤K→f c < K)→∃c d,c < d∧d≤K∧f c=f d
 | 0,f,h=>absurd (h 0 (Nat.le_refl 0)) (Nat.not_lt_zero _)
 | K+1,f,h=>by
   by_cases hx:∃c,c≤K∧f c=f (K+1)
   ·obtain⟨c,h1,h2⟩:=hx
    exact⟨c,K+1,by omega,Nat.le_refl _,h2⟩
   ·have hn:∀c,c≤K→f c≠f (K+1):=fun c h1 h2=>hx ⟨c,h1,h2⟩
    have hl:=h (K+1) (Nat.le_refl _)
    obtain⟨c,d,h1,h2,h3⟩:=pigeon K (fun c=>if f c=K then f (K+1) else f c) (fun c hc=>by
     have h4:=h c (by omega)
     have h5:=hn c hc
     show (if f c=K then f (K+1) else f c) < K
     split <;> omega)
    have e1:=hn c (by omega)
    have e2:=hn d h2
    refine ⟨c,d,h1,by omega,?_⟩
    replace h3:(if f c=K then f (K+1) else f c)=(if f d=K then f (K+1) else f d):=h3
    split at h3 <;> split at h3 <;> omega
def encN (b:Nat):Nat→(Nat→Nat)→Nat
 | 0,_=>0
 | n+1,e=>e 0+b * encN b n (fun j=>e (j+1))
theorem encN_lt{b:Nat}:∀{n:Nat} {e:Nat→Nat},(∀j,j < n→e j < b)→encN b n e < b ^ n
 | 0,_,_=>Nat.one_pos
 | n+1,e,h=>by
   have h1:=h 0 (by omega)
   have h2:=encN_lt (b:=b) (n:=n) (e:=fun j=>e (j+1)) (fun j hj=>h (j+1) (by omega))
   show e 0+b * encN b n (fun j=>e (j+1)) < b ^ (n+1)
   rw[Nat.pow_succ,Nat.mul_comm (b ^ n) b]
   have h3:b * (encN b n (fun j=>e (j+1))+1)≤b * b ^ n:=Nat.mul_le_mul_left b h2
   rw[Nat.mul_add,Nat.mul_one] at h3
   omega
theorem tl_{b:Nat}:∀{n:Nat} {e d:Nat→Nat},(∀j,j < n→e j < b)→(∀j,j < n→d j < b)→encN b n e=encN b n d→∀j,j < n→e j=d j
 | 0,_,_,_,_,_,j,hj=>absurd hj (Nat.not_lt_zero j)
 | n+1,e,d,he,hd,h,j,hj=>by
   have h1:=he 0 (by omega)
   have h2:=hd 0 (by omega)
   have h3:e 0+b * encN b n (fun j=>e (j+1))=d 0+b * encN b n (fun j=>d (j+1)):=h
   have h4:e 0=d 0:=by
    have:=congrArg (· % b) h3
    simp only[Nat.add_mul_mod_self_left] at this
    rwa [Nat.mod_eq_of_lt h1,Nat.mod_eq_of_lt h2] at this
   have h5:encN b n (fun j=>e (j+1))=encN b n (fun j=>d (j+1)):=Nat.eq_of_mul_eq_mul_left (Nat.lt_of_le_of_lt (Nat.zero_le _) h1) (by omega)
   cases j with
   | zero=>exact h4
   | succ j=>exact tl_ (fun j hj=>he (j+1) (by omega)) (fun j hj=>hd (j+1) (by omega)) h5 j (by omega)
theorem nv_{b:Nat}:∀{n:Nat} {e d:Nat→Nat},(∀j,j < n→e j=d j)→encN b n e=encN b n d
 | 0,_,_,_=>rfl
 | n+1,e,d,h=>by
   show e 0+b * encN b n (fun j=>e (j+1))=d 0+b * encN b n (fun j=>d (j+1))
   rw[h 0 (by omega),nv_ (n:=n) (fun j hj=>h (j+1) (by omega))]
def digN (b c j:Nat):Nat:=c / b ^ j % b
theorem py_{b:Nat}:∀(n c:Nat),c < b ^ n→encN b n (digN b c)=c
 | 0,c,h=>by
   have:c=0:=by simpa using h
   rw[this];rfl
 | n+1,c,h=>by
   have hb:0 < b:=by
    rcases Nat.eq_zero_or_pos b with e | e
    ·rw[e,Nat.pow_succ,Nat.mul_zero] at h;omega
    ·exact e
   have h1:c / b < b ^ n:=by
    rw[Nat.div_lt_iff_lt_mul hb]
    rwa [Nat.pow_succ] at h
   have h2:=py_ n (c / b) h1
   have h3:(fun j=>digN b c (j+1))=digN b (c / b):=by
    funext j
    show c / b ^ (j+1) % b=c / b / b ^ j % b
    rw[Nat.div_div_eq_div_mul,Nat.pow_succ,Nat.mul_comm]
   show digN b c 0+b * encN b n (fun j=>digN b c (j+1))=c
   rw[h3,h2]
   show c / b ^ 0 % b+b * (c / b)=c
   rw[Nat.pow_zero,Nat.div_one]
   exact Nat.mod_add_div c b
def isum:Nat→(Nat→Int)→Int
 | 0,_=>0
 | n+1,f=>isum n f+f n
theorem ur_:∀(n:Nat) (f g:Nat→Int),isum n (fun j=>f j - g j)=isum n f - isum n g
 | 0,_,_=>rfl
 | n+1,f,g=>by
   show isum n (fun j=>f j - g j)+(f n - g n)=(isum n f+f n) - (isum n g+g n)
   rw[ur_ n f g];omega
theorem isum_le:∀{n:Nat} {f:Nat→Int} {B:Nat},(∀j,j < n→(f j).natAbs≤B)→(isum n f).natAbs≤n * B
 | 0,_,_,_=>by show (0:Int).natAbs≤_;simp
 | n+1,f,B,h=>by
   have h1:=isum_le (n:=n) (f:=f) (B:=B) (fun j hj=>h j (by omega))
   have h2:=h n (by omega)
   have h3:(isum n f+f n).natAbs≤(isum n f).natAbs+(f n).natAbs:=Int.natAbs_add_le _ _
   show (isum n f+f n).natAbs≤(n+1) * B
   rw[Nat.add_mul];omega
theorem om_:∀{n:Nat} {f g:Nat→Int},(∀j,j < n→f j=g j)→isum n f=isum n g
 | 0,_,_,_=>rfl
 | n+1,f,g,h=>by
   show isum n f+f n=isum n g+g n
   rw[om_ (n:=n) (fun j hj=>h j (by omega)),h n (by omega)]
theorem sf_(Y X c M:Nat)(hX:c ^ M≤X)(hY:Y≤c * (X+1)):Y ^ M < (X+1) ^ (M+1):=by
 have h1:Y ^ M≤(c * (X+1)) ^ M:=Nat.pow_le_pow_left hY M
 rw[Nat.mul_pow] at h1
 have h2:c ^ M * (X+1) ^ M≤X * (X+1) ^ M:=Nat.mul_le_mul_right _ hX
 have h3:X * (X+1) ^ M < (X+1) ^ (M+1):=by
  rw[Nat.pow_succ,Nat.mul_comm ((X+1) ^ M)]
  exact Nat.mul_lt_mul_of_pos_right (Nat.lt_succ_self X) (Nat.pow_pos (Nat.succ_pos X))
 omega
theorem siegel(M H:Nat)(a:Nat→Nat→Int)(ha:∀i j,i < M→j < M+1→(a i j).natAbs≤H) :
 ∃x:Nat→Int,(∃j,j < M+1∧x j≠0)∧(∀j,j < M+1→(x j).natAbs≤(2 * ((M+1) * H)+1) ^ M)∧∀i,i < M→isum (M+1) (fun j=>a i j * x j)=0:=by
 obtain⟨X,hX⟩:∃X,(2 * ((M+1) * H)+1) ^ M=X:=⟨_,rfl⟩
 obtain⟨U,hU⟩:∃U,(M+1) * (H * X)=U:=⟨_,rfl⟩
 have hY:2 * U+1≤(2 * ((M+1) * H)+1) * (X+1):=by
  have h1:2 * U=2 * ((M+1) * H) * X:=by rw[←hU,Nat.mul_assoc,Nat.mul_assoc]
  rw[Nat.add_mul,Nat.mul_add,Nat.mul_one,Nat.one_mul]
  omega
 have hroom:=sf_ (2 * U+1) X _ M (Nat.le_of_eq hX) hY
 have hd:∀c j,digN (X+1) c j≤X:=fun c j=>Nat.le_of_lt_succ (Nat.mod_lt _ (Nat.succ_pos X))
 let v:Nat→Nat→Int:=fun c i=>isum (M+1) (fun j=>a i j * (digN (X+1) c j:Int))
 have hv:∀c i,i < M→(v c i).natAbs≤U:=fun c i hi=>by
  rw[←hU]
  refine isum_le (fun j hj=>?_)
  rw[Int.natAbs_mul,Int.natAbs_natCast]
  exact Nat.mul_le_mul (ha i j hi hj) (hd c j)
 let e:Nat→Nat→Nat:=fun c i=>(v c i+(U:Int)).toNat
 have he:∀c i,i < M→e c i < 2 * U+1:=fun c i hi=>by
  have:=hv c i hi
  show (v c i+(U:Int)).toNat < _
  omega
 obtain⟨c,d,h1,h2,h3⟩:=pigeon ((2 * U+1) ^ M) (fun c=>encN (2 * U+1) M (e c)) (fun c _=>encN_lt (he c))
 have h4:=tl_ (he c) (he d) h3
 have h5:∀i,i < M→v c i=v d i:=fun i hi=>by
  have g1:=h4 i hi
  have g2:=hv c i hi
  have g3:=hv d i hi
  have g4:(v c i+(U:Int)).toNat=(v d i+(U:Int)).toNat:=g1
  omega
 refine ⟨fun j=>(digN (X+1) c j:Int) - (digN (X+1) d j:Int),?_,fun j _=>?_,fun i hi=>?_⟩
 ·by_cases hx:∃j,j < M+1∧(digN (X+1) c j:Int) - (digN (X+1) d j:Int)≠0
  ·exact hx
  ·have h6:∀j,j < M+1→digN (X+1) c j=digN (X+1) d j:=fun j hj=>by
    by_cases h7:(digN (X+1) c j:Int) - (digN (X+1) d j:Int)=0
    ·omega
    ·exact absurd ⟨j,hj,h7⟩ hx
   have h8:encN (X+1) (M+1) (digN (X+1) c)=encN (X+1) (M+1) (digN (X+1) d):=nv_ h6
   rw[py_ _ _ (by omega),py_ _ _ (by omega)] at h8
   omega
 ·have:=hd c j
  have:=hd d j
  show ((digN (X+1) c j:Int) - (digN (X+1) d j:Int)).natAbs≤_
  rw[hX];omega
 ·have h6:=h5 i hi
  rw[om_ (g:=fun j=>a i j * (digN (X+1) c j:Int) - a i j * (digN (X+1) d j:Int)) (fun j _=>Int.mul_sub _ _ _),ur_]
  show v c i - v d i=0
  omega
theorem nat_far:∀bad:LR_,∃n:Nat,∀m:Nat,n≤m→((m:Nat):Rat) ∉ bad
 | [] => ⟨0,fun m _=>by simp⟩
 | b :: bad=>by
   obtain⟨n,hn⟩:=nat_far bad
   by_cases hb:∃k:Nat,((k:Nat):Rat)=b
   ·obtain⟨k,hk⟩:=hb
    refine ⟨max n (k+1),fun m hm h=>?_⟩
    rcases List.mem_cons.1 h with h | h
    ·have h2:((m:Nat):Rat)=((k:Nat):Rat):=by rw[h,hk]
     have:=Rat.natCast_inj.1 h2
     omega
    ·exact hn m (by omega) h
   ·refine ⟨n,fun m hm h=>?_⟩
    rcases List.mem_cons.1 h with h | h
    ·exact hb ⟨m,h⟩
    ·exact hn m hm h
def syn (a:Rat):List Rat→List Rat
 | [] => []
 | _ :: l=>padd l (ag_ a (syn a l))
theorem np_(a:Rat):∀l:LR_,(syn a l).length≤l.length - 1
 | [] => Nat.le_refl _
 | c :: l=>by
   have h:=np_ a l
   refine Nat.le_trans (fz_ _ _) ?_
   rw[a9_,List.length_cons];omega
theorem pb_(a x:Rat):∀l:LR_,ar_ x l=ar_ a l+(x - a) * ar_ x (syn a l)
 | [] => by show (0:Rat)=0+(x - a) * 0;grind
 | c :: l=>by
   have h:=pb_ a x l
   show c+x * ar_ x l=c+a * ar_ a l+(x - a) * ar_ x (padd l (ag_ a (syn a l)))
   rw[a2_,ap_]
   grind
theorem t3_:∀(n:Nat) (l bad:LR_),l.length≤n→(∀x,x ∉ bad→ar_ x l=0)→∀x,ar_ x l=0
 | 0,l,_,hl,_,x=>by
   rw[List.eq_nil_of_length_eq_zero (Nat.le_zero.1 hl)];rfl
 | n+1,l,bad,hl,h,x=>by
   obtain⟨m,hm⟩:=nat_far bad
   have ha:=hm m (Nat.le_refl m)
   have h0:=h _ ha
   have hs:=t3_ n (syn ((m:Nat):Rat) l) (((m:Nat):Rat) :: bad) (by have:=np_ ((m:Nat):Rat) l;omega) (fun y hy=>by
    rw[List.mem_cons] at hy
    have h1:=pb_ ((m:Nat):Rat) y l
    rw[h0,h y (fun e=>hy (.inr e))] at h1
    have h2:y - ((m:Nat):Rat)≠0:=fun e=>hy (.inl (by grind))
    have h3:(y - ((m:Nat):Rat)) * ar_ y (syn ((m:Nat):Rat) l)=0:=by grind
    rcases Rat.mul_eq_zero.1 h3 with h4 | h4
    ·exact absurd h4 h2
    ·exact h4)
   rw[pb_ ((m:Nat):Rat) x l,h0,hs x];grind
theorem zero_co:∀(l:LR_),(∀x,ar_ x l=0)→∀i,co l i=0
 | [],_,i=>rfl
 | c :: l,h,i=>by
   have h0:c=0:=by
    have h1:c+0 * ar_ 0 l=0:=h 0
    grind
   have hl:=t3_ l.length l [0] (Nat.le_refl _) (fun x hx=>by
    have hx0:x≠0:=fun e=>hx (by rw[e];exact List.mem_cons_self ..)
    have h1:c+x * ar_ x l=0:=h x
    have h2:x * ar_ x l=0:=by grind
    rcases Rat.mul_eq_zero.1 h2 with h3 | h3
    ·exact absurd h3 hx0
    ·exact h3)
   cases i with
   | zero=>exact h0
   | succ i=>rw[b1_];exact zero_co l hl i
theorem cd_(x:Rat)(a b:LR_):ar_ x (psub a b)=ar_ x a - ar_ x b:=by
 unfold psub
 rw[a2_,ap_];grind
theorem aq_{a b:List Rat}(h:∀x,ar_ x a=ar_ x b):peq a b:=fun i=>by
 have h1:=zero_co (psub a b) (fun x=>by rw[cd_,h x];grind) i
 rw[d6_] at h1
 grind
theorem dq_{a b:List Rat}(ha:plen a≠0)(hb:plen b≠0):plen (pmul a b)=plen a+plen b - 1:=by
 have:=(fr_ (a:=a) (b:=b) (m:=plen a - 1) (n:=plen b - 1) (by omega) (by omega)).1
 omega
theorem b2_(a b:LR_):plen (pmul a b)≤plen a+plen b - 1:=by
 by_cases ha:plen a=0
 ·have h:plen (pmul a b)=0:=am_ (a1_ (cy_ ha) (peq.refl b))
  omega
 ·by_cases hb:plen b=0
  ·have h:plen (pmul a b)=0:=am_ ((a1_ (peq.refl a) (cy_ hb)).trans (d9_ a))
   omega
  ·exact Nat.le_of_eq (dq_ ha hb)
def Ints (a:LR_) (H:Nat):Prop:=∀i,∃z:Int,co a i=(z:Rat)∧z.natAbs≤H
theorem Ints.congr{a b:List Rat}{H:Nat}(h:Ints a H)(e:peq a b):Ints b H:=fun i=>by
 obtain⟨z,h1,h2⟩:=h i
 exact⟨z,by rw[←e i];exact h1,h2⟩
theorem Ints.mono{a:List Rat}{H K:Nat}(h:Ints a H)(e:H≤K):Ints a K:=fun i=>by
 obtain⟨z,h1,h2⟩:=h i
 exact⟨z,h1,Nat.le_trans h2 e⟩
theorem Ints.neg{a:List Rat}{H:Nat}{c:Rat}(h:Ints (ag_ c a) H):Ints (ag_ (-c) a) H:=fun i=>by
 obtain⟨z,h1,h2⟩:=h i
 refine ⟨-z,?_,by omega⟩
 rw[aj_] at h1 ⊢
 rw[Rat.intCast_neg,←h1];grind
theorem ma_:∀(n:Nat) (f:Nat→Int),((isum n f:Int):Rat)=ca_ n (fun j=>((f j:Int):Rat))
 | 0,_=>rfl
 | n+1,f=>by
   show ((isum n f+f n:Int):Rat)=ca_ n (fun j=>((f j:Int):Rat))+((f n:Int):Rat)
   rw[Rat.intCast_add,ma_ n f]
theorem nt_(p:Nat):∀(q:Nat) (f:Nat→Int),isum (p+q) f=isum p f+isum q (fun j=>f (p+j))
 | 0,f=>by show isum p f=isum p f+0;omega
 | q+1,f=>by
   show isum (p+q) f+f (p+q)=isum p f+(isum q (fun j=>f (p+j))+f (p+q))
   rw[nt_ p q f];omega
theorem ll_(n:Nat)(f:Nat→Rat)(i:Nat):co ((List.range n).map f) i=if i < n then f i else 0:=by
 split
 ·rename_i h
  unfold co
  rw[List.getD_eq_getElem?_getD,List.getElem?_map,List.getElem?_range h];rfl
 ·exact da_ (by simp;omega)
theorem oh_(p:Nat)(u:Nat→Rat)(F:LR_)(k:Nat):co (pmul ((List.range p).map u) F) k=ca_ p (fun j=>if j≤k then u j * co F (k - j) else 0):=by
 rw[c3_]
 let f:Nat→Rat:=fun j=>if j≤k then co ((List.range p).map u) j * co F (k - j) else 0
 have h1:ca_ (k+1) (fun i=>co ((List.range p).map u) i * co F (k - i))=ca_ (k+1) f:=bv_ fun i hi=>by
  show _=if i≤k then _ else _
  rw[if_pos (by omega)]
 have h2:ca_ (max (k+1) p) f=ca_ (k+1) f:=fu_ (by omega) fun i h3 _=>by
  show (if i≤k then _ else _)=_
  rw[if_neg (by omega)]
 have h3:ca_ (max (k+1) p) f=ca_ p f:=fu_ (by omega) fun i h3 _=>by
  show (if i≤k then co ((List.range p).map u) i * co F (k - i) else 0)=_
  rw[ll_]
  split
  ·rw[if_neg (by omega),Rat.zero_mul]
  ·rfl
 rw[h1,←h2,h3]
 refine bv_ fun i hi=>?_
 show (if i≤k then co ((List.range p).map u) i * co F (k - i) else 0)=_
 rw[ll_,if_pos hi]
theorem ns_{F E P Q:List Rat}{p q H D0:Nat}(hF:Ints F H)(hE:Ints E H)(hdF:plen F≤D0+(q+1))(hdE:plen E≤D0+p)(hQ:plen Q=q+1)
 (hcop:∃s t,peq (padd (pmul s P) (pmul t Q)) [1])
 (hC:∀U V:LR_,U.length≤p→V.length≤q+1→(∀k,D0≤k→co (pmul U F) k+co (pmul V E) k=0)→peq (pmul U Q) (pmul V P)) :
 ∃(U V:LR_) (k:Rat),k≠0∧Ints U ((2 * ((p+q+1) * H)+1) ^ (p+q))∧Ints V ((2 * ((p+q+1) * H)+1) ^ (p+q))∧peq U (ag_ k P)∧peq V (ag_ k Q)∧U.length≤p∧V.length≤q+1:=by
 let fz:Nat→Int:=fun i=>Classical.choose (hF i)
 have hfz:∀i,co F i=(fz i:Rat)∧(fz i).natAbs≤H:=fun i=>Classical.choose_spec (hF i)
 let ez:Nat→Int:=fun i=>Classical.choose (hE i)
 have hez:∀i,co E i=(ez i:Rat)∧(ez i).natAbs≤H:=fun i=>Classical.choose_spec (hE i)
 obtain⟨x,⟨j0,hj0,hj1⟩,hxX,hx0⟩:=siegel (p+q) H (fun i j=>if j < p then (if j≤D0+i then fz (D0+i - j) else 0) else (if j - p≤D0+i then ez (D0+i - (j - p)) else 0)) (fun i j _ _=>by
  split
  ·split
   ·exact (hfz _).2
   ·exact Nat.zero_le _
  ·split
   ·exact (hez _).2
   ·exact Nat.zero_le _)
 obtain⟨U,hU⟩:∃U,(List.range p).map (fun j=>((x j:Int):Rat))=U:=⟨_,rfl⟩
 obtain⟨V,hV⟩:∃V,(List.range (q+1)).map (fun j=>((x (p+j):Int):Rat))=V:=⟨_,rfl⟩
 have hUl:U.length≤p:=by rw[←hU];simp
 have hVl:V.length≤q+1:=by rw[←hV];simp
 have hUc:∀i,co U i=if i < p then ((x i:Int):Rat) else 0:=fun i=>by rw[←hU,ll_]
 have hVc:∀i,co V i=if i < q+1 then ((x (p+i):Int):Rat) else 0:=fun i=>by rw[←hV,ll_]
 have hUI:Ints U ((2 * ((p+q+1) * H)+1) ^ (p+q)):=fun i=>by
  rw[hUc]
  by_cases hi:i < p
  ·rw[if_pos hi];exact⟨x i,rfl,hxX i (by omega)⟩
  ·rw[if_neg hi];exact⟨0,rfl,Nat.zero_le _⟩
 have hVI:Ints V ((2 * ((p+q+1) * H)+1) ^ (p+q)):=fun i=>by
  rw[hVc]
  by_cases hi:i < q+1
  ·rw[if_pos hi];exact⟨x (p+i),rfl,hxX (p+i) (by omega)⟩
  ·rw[if_neg hi];exact⟨0,rfl,Nat.zero_le _⟩
 have hvan:∀k,D0≤k→co (pmul U F) k+co (pmul V E) k=0:=fun k hk=>by
  by_cases hM:k < D0+(p+q)
  ·obtain⟨i,hi⟩:∃i,D0+i=k:=⟨k - D0,by omega⟩
   have h1:=hx0 i (by omega)
   have h2:((isum (p+q+1) _:Int):Rat)=((0:Int):Rat):=congrArg (fun z:Int=>(z:Rat)) h1
   rw[show p+q+1=p+(q+1) by omega,nt_,Rat.intCast_add,ma_,ma_] at h2
   rw[←hU,←hV,oh_,oh_]
   refine Eq.trans ?_ (h2.trans rfl)
   congr 1
   ·refine bv_ fun j hj=>?_
    rw[if_pos hj,hi]
    split
    ·rw[(hfz (k - j)).1,Rat.intCast_mul,Rat.mul_comm]
    ·rw[Int.zero_mul];rfl
   ·refine bv_ fun j _=>?_
    rw[if_neg (show ¬p+j < p by omega),hi,Nat.add_sub_cancel_left]
    split
    ·rw[(hez (k - j)).1,Rat.intCast_mul,Rat.mul_comm]
    ·rw[Int.zero_mul];rfl
  ·have h1:=b2_ U F
   have h2:=b2_ V E
   have h3:=bb_ U
   have h4:=bb_ V
   rw[b8_ (a:=pmul U F) (by omega),b8_ (a:=pmul V E) (by omega)];grind
 have hUV:=hC U V hUl hVl hvan
 obtain⟨s,t,hst⟩:=hcop
 obtain⟨K,hK⟩:∃K,padd (pmul s U) (pmul t V)=K:=⟨_,rfl⟩
 have hev:∀y,ar_ y s * ar_ y P+ar_ y t * ar_ y Q=1:=fun y=>by
  have h:=ak_ y hst
  rw[a2_,af_,af_] at h
  have h1:ar_ y [1]=1:=by show (1:Rat)+y * 0=1;grind
  rw[h1] at h;exact h
 have hev2:∀y,ar_ y U * ar_ y Q=ar_ y V * ar_ y P:=fun y=>by
  have h:=ak_ y hUV
  rwa [af_,af_] at h
 have hUK:peq U (pmul P K):=aq_ fun y=>by
  have h1:=hev y
  have h2:=hev2 y
  rw[←hK,af_,a2_,af_,af_];grind
 have hVK:peq V (pmul Q K):=aq_ fun y=>by
  have h1:=hev y
  have h2:=hev2 y
  rw[←hK,af_,a2_,af_,af_];grind
 have hK0:plen K≠0:=fun e=>by
  have hz:∀i,co U i=0:=fun i=>by rw[hUK i,(a1_ (peq.refl P) (cy_ e)) i,d9_ P i,d8_]
  have hz2:∀i,co V i=0:=fun i=>by rw[hVK i,(a1_ (peq.refl Q) (cy_ e)) i,d9_ Q i,d8_]
  by_cases hjp:j0 < p
  ·have h1:=hz j0
   rw[hUc,if_pos hjp] at h1
   exact hj1 (Rat.intCast_inj.1 h1)
  ·have h1:=hz2 (j0 - p)
   rw[hVc,if_pos (by omega),show p+(j0 - p)=j0 by omega] at h1
   exact hj1 (Rat.intCast_inj.1 h1)
 have hK1:plen K=1:=by
  have h1:=am_ hVK
  rw[dq_ (by omega) hK0,hQ] at h1
  have h2:=bb_ V
  omega
 obtain⟨k,hk⟩:∃k,co K 0=k:=⟨_,rfl⟩
 have hk0:k≠0:=hk▸dl_ hK1
 have hKk:peq K [k]:=fun i=>by
  cases i with
  | zero=>exact hk
  | succ i=>rw[b8_ (a:=K) (by omega),b1_,d8_]
 have hke:∀y,ar_ y K=k:=fun y=>by
  rw[ak_ y hKk]
  show k+y * 0=k
  grind
 refine ⟨U,V,k,hk0,hUI,hVI,hUK.trans (aq_ fun y=>?_),hVK.trans (aq_ fun y=>?_),hUl,hVl⟩
 ·rw[af_,ap_,hke];grind
 ·rw[af_,ap_,hke];grind
theorem pn_{A B u v G:List Rat}{H:Nat}{c:Rat}(hc:c≠0)(hAI:Ints (ag_ c A) H)(hBI:Ints (ag_ c B) H)(hA:peq A (pmul u G))(hB:peq B (pmul v G))(hG:plen G≠0)(hv:plen v≠0)
 (hcop:∃s t,peq (padd (pmul s u) (pmul t v)) [1]):∃k:Rat,k≠0∧Ints (ag_ k u) ((2 * ((plen u+plen v) * H)+1) ^ (plen u+plen v - 1))∧Ints (ag_ k v) ((2 * ((plen u+plen v) * H)+1) ^ (plen u+plen v - 1)):=by
 obtain⟨q,hq⟩:∃q,plen v=q+1:=⟨plen v - 1,by omega⟩
 have hdB:plen B=plen v+plen G - 1:=by rw[am_ hB,dq_ hv hG]
 have hdA:plen A≤plen u+plen G - 1:=by rw[am_ hA];exact b2_ _ _
 obtain⟨U,V,k,h1,h2,h3,h4,h5,_,_⟩:=ns_ (F:=ag_ c B) (E:=ag_ (-c) A) (P:=u) (Q:=v) (p:=plen u) (q:=q) (D0:=plen G - 1) hBI hAI.neg (by rw[bm_ hc];omega) (by rw[bm_ (by grind)];omega) hq hcop (fun U V _ _ hvan=>by
  obtain⟨W,hW⟩:∃W,psub (pmul U v) (pmul V u)=W:=⟨_,rfl⟩
  have hWG:peq (padd (pmul U (ag_ c B)) (pmul V (ag_ (-c) A))) (ag_ c (pmul W G)):=aq_ fun y=>by
   have e1:=ak_ y hA
   have e2:=ak_ y hB
   rw[af_] at e1 e2
   rw[a2_,af_,af_,ap_,ap_,ap_,af_,←hW,cd_,af_,af_,e1,e2];grind
  have hW0:plen W=0:=Classical.byContradiction fun hn=>by
   have g1:=dq_ hn hG
   have g2:=dl_ (a:=pmul W G) (n:=plen W+plen G - 2) (by omega)
   have g3:=hWG (plen W+plen G - 2)
   rw[a8_,hvan _ (by omega),aj_] at g3
   rcases Rat.mul_eq_zero.1 g3.symm with g4 | g4
   ·exact hc g4
   ·exact g2 g4
  intro i
  have g1:=plen_zero.1 hW0 i
  rw[←hW,d6_] at g1
  grind)
 rw[show plen u+q+1=plen u+plen v by omega,show plen u+q=plen u+plen v - 1 by omega] at h2 h3
 exact⟨k,h1,h2.congr h4,h3.congr h5⟩
theorem l0_{a b:List Rat}(h:plen b < plen a):plen (padd a b)=plen a:=by
 have h1:=hx_ a b
 have h2:=dl_ (a:=a) (n:=plen a - 1) (by omega)
 have h3:co (padd a b) (plen a - 1)≠0:=by
  rw[a8_,b8_ (a:=b) (by omega),Rat.add_zero];exact h2
 have:=hy_ h3
 omega
theorem lm_(a:LR_):plen (ag_ (-1) a)=plen a:=bm_ (by decide) a
theorem mf_{a b:List Rat}(h:plen a < plen b):plen (psub a b)=plen b:=by
 have e:peq (psub a b) (padd (ag_ (-1) b) a):=fun i=>by rw[d6_,a8_,aj_];grind
 rw[am_ e,l0_ (by rw[lm_];exact h),lm_]
theorem l9_{x y q r:List Rat}(h:isDiv x y q r)(hl:plen y≤plen x):plen q=plen x - plen y+1:=by
 have h2:=h.2
 have hq:plen q≠0:=fun e=>by
  have h3:plen x=plen r:=am_ (h.1.trans (fun i=>by rw[a8_,(a1_ (cy_ e) (peq.refl y)) i];show (0:Rat)+_=_;grind))
  omega
 have h4:=dq_ hq (b:=y) (by omega)
 have h5:=am_ h.1
 rw[l0_ (by omega),h4] at h5
 omega
structure Eu (A B x y:LR_):Prop where
 some:∃(ux vx uy vy:LR_) (e:Rat),e≠0∧peq x (padd (pmul ux A) (pmul vx B))∧peq y (padd (pmul uy A) (pmul vy B))∧peq (psub (pmul ux vy) (pmul uy vx)) [e]∧
  plen vy+plen x=plen A+1∧plen uy+plen x=plen B+1∧plen vx+plen y≤plen A∧plen ux+plen y≤plen B
 less:plen y < plen x
 small:plen x≤plen B
 most:plen B≤plen A
theorem bs_(c x:Rat):ar_ x [c]=c:=by show c+x * 0=c;grind
theorem et_{c:Rat}(h:c≠0):plen [c]=1:=by
 have h1:=hy_ (a:=[c]) (n:=0) h
 have h2:=bb_ [c]
 simp at h2;omega
theorem Eu.start{A B q r:List Rat}(hd:isDiv A B q r)(hl:plen B≤plen A):Eu A B B r:=by
 have h2:=hd.2
 have hq:=l9_ hd hl
 refine ⟨⟨[],[1],[1],ag_ (-1) q,-1,by decide,aq_ fun x=>?_,aq_ fun x=>?_,aq_ fun x=>?_,?_,?_,?_,?_⟩,h2,Nat.le_refl _,hl⟩
 ·rw[a2_,af_,af_,bs_];show _=0 * _+_;grind
 ·have:=ak_ x hd.1
  rw[a2_,af_] at this
  rw[a2_,af_,af_,bs_,ap_,this];grind
 ·rw[cd_,af_,af_,bs_,bs_];show 0 * _ - _=_;grind
 ·rw[lm_,hq];omega
 ·rw[et_ (by decide)];omega
 ·rw[et_ (by decide)];omega
 ·show 0+_≤_;omega
theorem Eu.step{A B x y q r:List Rat}(h:Eu A B x y)(hd:isDiv x y q r):Eu A B y r:=by
 obtain⟨⟨ux,vx,uy,vy,e,he,h1,h2,h3,h4,h5,h6,h7⟩,hl,hs,hm⟩:=h
 have hr:=hd.2
 have hq:=l9_ hd (by omega)
 have gv:=dq_ (a:=q) (b:=vy) (by omega) (by omega)
 have gu:=dq_ (a:=q) (b:=uy) (by omega) (by omega)
 have hv:plen (psub vx (pmul q vy))=plen (pmul q vy):=mf_ (by omega)
 have hu:plen (psub ux (pmul q uy))=plen (pmul q uy):=mf_ (by omega)
 refine ⟨⟨uy,vy,psub ux (pmul q uy),psub vx (pmul q vy),-e,by grind,h2,aq_ fun z=>?_,aq_ fun z=>?_,?_,?_,?_,?_⟩,hr,by omega,hm⟩
 ·have e1:=ak_ z h1
  have e2:=ak_ z h2
  have e3:=ak_ z hd.1
  rw[a2_,af_,af_] at e1 e2
  rw[a2_,af_] at e3
  rw[a2_,af_,af_,cd_,cd_,af_,af_];grind
 ·have e4:=ak_ z h3
  rw[cd_,af_,af_,bs_] at e4
  rw[cd_,af_,af_,cd_,cd_,af_,af_,bs_];grind
 ·rw[hv,gv];omega
 ·rw[hu,gu];omega
 ·omega
 ·omega
theorem Ints.add{a b:List Rat}{H K:Nat}(h:Ints a H)(k:Ints b K):Ints (padd a b) (H+K):=fun i=>by
 obtain⟨z,h1,h2⟩:=h i
 obtain⟨y,k1,k2⟩:=k i
 refine ⟨z+y,by rw[a8_,h1,k1,Rat.intCast_add],?_⟩
 have:=Int.natAbs_add_le z y
 omega
theorem Ints.scale{b:List Rat}{K X:Nat}{z:Int}(k:Ints b K)(h:z.natAbs≤X):Ints (ag_ (z:Rat) b) (X * K):=fun i=>by
 obtain⟨y,k1,k2⟩:=k i
 refine ⟨z * y,by rw[aj_,k1,Rat.intCast_mul],?_⟩
 rw[Int.natAbs_mul]
 exact Nat.mul_le_mul h k2
theorem Ints.shift{a:List Rat}{H:Nat}(h:Ints a H):Ints (0 :: a) H:=fun i=>by
 cases i with
 | zero=>exact⟨0,rfl,Nat.zero_le _⟩
 | succ i=>rw[b1_];exact h i
theorem Ints.mul{b:List Rat}{K X:Nat}(k:Ints b K):∀{a:List Rat},Ints a X→Ints (pmul a b) (a.length * (X * K))
 | [],_=>fun i=>⟨0,by rw[pmul,d8_];rfl,Nat.zero_le _⟩
 | c :: l,h=>by
   obtain⟨z,h1,h2⟩:=h 0
   have hc:c=(z:Rat):=h1
   have hl:Ints l X:=fun i=>by
    have:=h (i+1)
    rwa [b1_] at this
   have ih:=Ints.mul k hl
   rw[pmul,List.length_cons,Nat.add_mul,Nat.one_mul,Nat.add_comm]
   refine Ints.add ?_ ih.shift
   rw[hc]
   exact k.scale h2
theorem Eu.size{A B x y:List Rat}{c:Rat}{H:Nat}(h:Eu A B x y)(hc:c≠0)(hA:Ints (ag_ c A) H)(hB:Ints (ag_ c B) H) :
 ∃k:Rat,k≠0∧Ints (ag_ k y) ((plen A+plen B) * ((2 * ((plen A+plen B) * H)+1) ^ (plen A+plen B) * H)):=by
 obtain⟨⟨ux,vx,uy,vy,e,he,h1,h2,h3,h4,h5,h6,h7⟩,hl,hs,hm⟩:=h
 obtain⟨q,hq⟩:∃q,plen vy=q+1:=⟨plen vy - 1,by omega⟩
 have hcA:plen (ag_ c A)=plen A:=bm_ hc A
 have hcB:plen (ag_ c B)=plen B:=bm_ hc B
 obtain⟨U,V,k,k0,hU,hV,eU,eV,lU,lV⟩:=ns_ (F:=ag_ c A) (E:=ag_ c B) (P:=uy) (Q:=vy) (p:=plen uy) (q:=q) (D0:=plen x - 1) hA hB (by omega) (by omega) hq
  ⟨ag_ (-(1 / e)) vx,ag_ (1 / e) ux,aq_ fun z=>by
    have e4:=ak_ z h3
    rw[cd_,af_,af_,bs_] at e4
    rw[a2_,af_,af_,ap_,ap_,bs_]
    have e5:1 / e * e=1:=Rat.div_mul_cancel he
    grind⟩
  (fun U V hU hV hvan=>by
    obtain⟨W,hW⟩:∃W,psub (pmul U vy) (pmul V uy)=W:=⟨_,rfl⟩
    obtain⟨w,hw⟩:∃w,padd (pmul U (ag_ c A)) (pmul V (ag_ c B))=w:=⟨_,rfl⟩
    have hwl:plen w≤plen x - 1:=gn_ fun i hi=>by rw[←hw,a8_];exact hvan i hi
    have e1:peq (pmul W (ag_ c A)) (psub (pmul vy w) (ag_ c (pmul V y))):=aq_ fun z=>by
     have e2:=ak_ z h2
     rw[a2_,af_,af_] at e2
     rw[←hW,←hw]
     simp only[a2_,cd_,af_,ap_]
     rw[e2];grind
    have hW0:plen W=0:=Classical.byContradiction fun hn=>by
     have g1:=dq_ hn (b:=ag_ c A) (by omega)
     have g2:=am_ e1
     have g3:=hx_ (pmul vy w) (ag_ (-1) (ag_ c (pmul V y)))
     have g4:=b2_ vy w
     have g5:=b2_ V y
     have g6:=bb_ V
     have g7:=hb_ c (pmul V y)
     have g8:plen (psub (pmul vy w) (ag_ c (pmul V y)))≤max (plen (pmul vy w)) (plen (ag_ (-1) (ag_ c (pmul V y)))):=g3
     rw[lm_] at g8
     omega
    intro i
    have g1:=plen_zero.1 hW0 i
    rw[←hW,d6_] at g1
    grind)
 have hn:plen uy+q+1≤plen A+plen B:=by omega
 have hX:(2 * ((plen uy+q+1) * H)+1) ^ (plen uy+q)≤(2 * ((plen A+plen B) * H)+1) ^ (plen A+plen B):=
  Nat.le_trans (Nat.pow_le_pow_left (by have:=Nat.mul_le_mul_right H hn;omega) _) (Nat.pow_le_pow_right (by omega) (by omega))
 refine ⟨k * c,fun e0=>?_,?_⟩
 ·rcases Rat.mul_eq_zero.1 e0 with g | g
  ·exact k0 g
  ·exact hc g
 ·have e5:peq (padd (pmul U (ag_ c A)) (pmul V (ag_ c B))) (ag_ (k * c) y):=aq_ fun z=>by
   have e2:=ak_ z h2
   rw[a2_,af_,af_] at e2
   rw[a2_,af_,af_,ak_ z eU,ak_ z eV,ap_,ap_,ap_,ap_,ap_,e2];grind
  refine Ints.congr (Ints.mono ((hA.mul (hU.mono hX)).add (hB.mul (hV.mono hX))) ?_) e5
  rw[←Nat.add_mul]
  exact Nat.mul_le_mul_right _ (by omega)
theorem gl_(l:LR_)(k i:Nat):co (l.take k) i=if i < k then co l i else 0:=by
 unfold co
 rw[List.getD_eq_getElem?_getD,List.getElem?_take]
 split
 ·rw[List.getD_eq_getElem?_getD]
 ·rfl
theorem pnorm_cut{l:List Rat}{k:Nat}(h0:l.getD k 0=0):ah_ (l.take (k+1))=ah_ (l.take k):=pnorm_iff.2 fun i=>by
 rw[gl_,gl_]
 by_cases h1:i < k
 ·rw[if_pos h1,if_pos (by omega)]
 ·by_cases h2:i < k+1
  ·rw[if_pos h2,if_neg h1]
   have:i=k:=by omega
   subst this
   exact h0
  ·rw[if_neg h2,if_neg h1]
theorem uw_{l:List Rat}{k:Nat}(hk:k < l.length)(h0:l.getD k 0≠0):ah_ (l.take (k+1))=l.take (k+1):=by
 have h1:co (l.take (k+1)) k≠0:=by rw[gl_,if_pos (by omega)];exact h0
 have h2:=hy_ h1
 unfold plen at h2
 have h3:=dd_ (l.take (k+1))
 rw[h3]
 exact List.take_of_length_le (by rw[List.length_take];omega)
def tab (n:Nat) (f:Nat→Rat):List Rat:=(List.range n).map f
theorem e5_(n:Nat)(f:Nat→Rat):(tab n f).length=n:=by unfold tab;simp
theorem nz_{n k:Nat}{f:Nat→Rat}(h:k < n):(tab n f).getD k 0=f k:=by
 unfold tab
 rw[List.getD_eq_getElem?_getD,List.getElem?_map,List.getElem?_range h];rfl
theorem rd_(n:Nat)(f:Nat→Rat)(i:Nat):co (tab n f) i=if i < n then f i else 0:=by
 split
 ·exact nz_ ‹_›
 ·exact da_ (by rw[e5_];omega)
theorem sp_{n:Nat}{f:Nat→Rat}{q:Rat}(h:q∈tab n f):∃i,i < n∧q=f i:=by
 unfold tab at h
 obtain⟨i,h1,h2⟩:=List.mem_map.1 h
 exact⟨i,List.mem_range.1 h1,h2.symm⟩
theorem tab_padd(a b:LR_):peq (tab (max a.length b.length) (fun i=>co a i+co b i)) (padd a b):=fun i=>by
 rw[rd_,a8_]
 split
 ·rfl
 ·rw[da_ (l:=a) (by omega),da_ (l:=b) (by omega),Rat.add_zero]
def e2_ (a b:LR_) (k i:Nat):Rat:=co a i * co b (k - i)
theorem tab_pmul(a b:LR_):peq (tab (a.length+b.length) (fun k=>ca_ (k+1) (e2_ a b k))) (pmul a b):=fun i=>by
 rw[rd_,c3_]
 split
 ·rfl
 ·exact ((c3_ a b i).symm.trans (da_ (Nat.le_trans (b7_ a b) (by omega)))).symm
theorem od_{a b:List Rat}{k i:Nat}(h1:i≤k+1)(h2:i=k+1∨a.length≤i):ca_ (k+1) (e2_ a b k)=ca_ i (e2_ a b k):=by
 refine fu_ h1 fun j h3 _=>?_
 unfold e2_
 rw[da_ (by omega),Rat.zero_mul]
theorem pterm_far{a b:List Rat}{k i:Nat}(h:b.length≤k - i):e2_ a b k i=0:=by
 unfold e2_
 rw[da_ h,Rat.mul_zero]
def shot (d:Nat) (c:Rat):List Rat:=List.replicate d 0 ++ [c]
theorem i5_(d:Nat)(c:Rat):(shot d c).length=d+1:=by unfold shot;simp
theorem e4_(d:Nat)(c:Rat)(i:Nat):co (shot d c) i=if i=d then c else 0:=by
 unfold co shot
 rw[List.getD_eq_getElem?_getD]
 by_cases h1:i < d
 ·rw[List.getElem?_append_left (by simpa using h1),List.getElem?_replicate,if_pos h1,if_neg (by omega)];rfl
 ·rw[List.getElem?_append_right (by simpa using Nat.le_of_not_lt h1),List.length_replicate]
  by_cases h2:i=d
  ·rw[if_pos h2,h2,Nat.sub_self];rfl
  ·rw[if_neg h2,List.getElem?_eq_none (by simp;omega)];rfl
theorem tq_{d:Nat}{c:Rat}(b:LR_)(k i:Nat):ca_ i (e2_ (shot d c) b k)=if d < i then c * co b (k - d) else 0:=by
 split
 ·rename_i h
  rw[ol_ (k:=d) h (fun j _ h2=>by unfold e2_;rw[e4_,if_neg h2,Rat.zero_mul])]
  unfold e2_
  rw[e4_,if_pos rfl]
 ·rename_i h
  rw[bv_ (g:=fun _=>0) (fun j h2=>by unfold e2_;rw[e4_,if_neg (by omega),Rat.zero_mul])]
  exact e7_ i
theorem dv_(d:Nat)(c:Rat)(b:LR_)(k:Nat):co (pmul (shot d c) b) k=if d≤k then c * co b (k - d) else 0:=by
 rw[c3_]
 have h:=tq_ (d:=d) (c:=c) b k (k+1)
 unfold e2_ at h
 rw[h]
 by_cases h1:d≤k
 ·rw[if_pos h1,if_pos (by omega)]
 ·rw[if_neg h1,if_neg (by omega)]
theorem gf_{b:List Rat}(h:ah_ b=b)(h0:0 < b.length):b.getD (b.length - 1) 0≠0:=by
 have h1:=a0_ h
 have h2:=dl_ (a:=b) (n:=b.length - 1) (by omega)
 exact h2
theorem lh_{A B Q R Q' X R':List Rat}{c:Rat}(hB:ah_ B=B)(h0:0 < B.length)(hl:B.length≤R.length)(h:peq A (padd (pmul Q B) R))
 (hc:c=R.getD (R.length - 1) 0 / B.getD (B.length - 1) 0) (hQ:peq Q' (padd Q (shot (R.length - B.length) c))) (hX:peq X (pmul (shot (R.length - B.length) c) B)) (hR:peq R' (psub R X)) (hr:ah_ R'=R') :
 peq A (padd (pmul Q' B) R')∧R'.length < R.length:=by
 refine ⟨fun i=>?_,?_⟩
 ·rw[h i,a8_,a8_,hR i,d6_,hX i,(a1_ hQ (peq.refl B)) i,(eu_ _ _ _) i,a8_];grind
 ·have h1:plen R'≤R.length - 1:=gn_ fun i hi=>by
   rw[hR i,d6_,hX i,dv_,if_pos (by omega)]
   rcases Nat.lt_or_ge i R.length with h2 | h2
   ·have h3:i=R.length - 1:=by omega
    have h4:i - (R.length - B.length)=B.length - 1:=by omega
    rw[h4,h3,hc]
    show R.getD (R.length - 1) 0 - R.getD (R.length - 1) 0 / B.getD (B.length - 1) 0 * B.getD (B.length - 1) 0=0
    have h5:=gf_ hB h0
    rw[Rat.div_mul_cancel h5];grind
   ·rw[da_ h2,da_ (l:=B) (by omega)];grind
  rw[a0_ hr] at h1
  omega
theorem jk_{d:Nat}{c:Rat}{b:List Rat}{C K:Nat}(hc:qlen c≤C)(hb:∀q∈b,qlen q≤K)(hK:1≤K)(k:Nat):qlen (co (pmul (shot d c) b) k)≤C+K+1:=by
 rw[dv_]
 split
 ·exact Nat.le_trans (ci_ _ _) (Nat.add_le_add_right (Nat.add_le_add hc (cv_ hK hb _)) 1)
 ·rw[cw_];omega
theorem qc_{d:Nat}{c:Rat}{b:List Rat}{C K:Nat}(hc:qlen c≤C)(hb:∀q∈b,qlen q≤K)(hK:1≤K)(k i:Nat):qlen (ca_ i (e2_ (shot d c) b k))≤C+K+1:=by
 rw[tq_]
 split
 ·exact Nat.le_trans (ci_ _ _) (Nat.add_le_add_right (Nat.add_le_add hc (cv_ hK hb _)) 1)
 ·rw[cw_];omega
theorem div_len{B Q R Q' X R':List Rat}{c:Rat}{r K M:Nat}(hr1:1≤r)(hK1:1≤K)(hr:∀q∈R,qlen q≤r)(hb:∀q∈B,qlen q≤K)(hq:∀q∈Q,qlen q≤M)(hM:r+K+1≤M)
 (hc:c=R.getD (R.length - 1) 0 / B.getD (B.length - 1) 0) (hQ:peq Q' (padd Q (shot (R.length - B.length) c))) (hX:peq X (pmul (shot (R.length - B.length) c) B)) (hR:peq R' (psub R X)) (hfree:co Q (R.length - B.length)=0) :
 qlen c≤r+K+1∧(∀q∈X,qlen q≤r+K+K+2)∧(∀q∈R',qlen q≤r+r+K+K+4)∧(∀q∈Q',qlen q≤M):=by
 have h1:qlen c≤r+K+1:=by
  rw[hc]
  exact Nat.le_trans (lp_ _ _) (Nat.add_le_add_right (Nat.add_le_add (cv_ hr1 hr _) (cv_ hK1 hb _)) 1)
 have h2:∀i,qlen (co X i)≤r+K+K+2:=fun i=>by
  rw[hX i]
  exact Nat.le_trans (jk_ h1 hb hK1 i) (by omega)
 refine ⟨h1,co_ h2,co_ fun i=>?_,co_ fun i=>?_⟩
 ·rw[hR i,d6_]
  have h3:=qlen_sub (co R i) (co X i)
  have h4:=cv_ hr1 hr i
  have h5:=h2 i
  omega
 ·rw[hQ i,a8_,e4_]
  by_cases h3:i=R.length - B.length
  ·rw[if_pos h3,h3,hfree,Rat.zero_add];omega
  ·rw[if_neg h3,Rat.add_zero]
   exact cv_ (by omega) hq i
structure Divs (A B Q R:LR_) (n K S t:Nat):Prop where
 sum:peq A (padd (pmul Q B) R)
 right:ah_ R=R
 way:t+R.length≤n
 most:t≤n+1 - B.length
 rlen:∀q∈R,qlen q+(K+K+6)≤2 ^ t * S
 qlen:∀q∈Q,Go.Proofs.YtocebjbjnfammaaGreat.qlen q+(K+5)≤2 ^ (n+1 - B.length) * S
 free:∀i,i+B.length≤R.length→co Q i=0
theorem Divs.start{A B R:List Rat}{n N K S:Nat}(hR:ah_ A=R)(hn:R.length≤n)(hA:∀q∈R,Go.Proofs.YtocebjbjnfammaaGreat.qlen q≤N)(hS:N+(K+K+6)=S):Divs A B [] R n K S 0:=by
 subst hR
 exact⟨fun i=>by rw[a8_,pmul,d8_,au_];grind,a7_ A,by omega,by omega,fun q hq=>by have:=hA q hq;rw[Nat.pow_zero,Nat.one_mul];omega,fun q hq=>by simp at hq,fun _ _=>rfl⟩
theorem Divs.left{A B Q R:List Rat}{n K S t:Nat}(h:Divs A B Q R n K S t)(h0:0 < R.length):∃r,1≤r∧r+(K+K+6)=2 ^ t * S∧∀q∈R,Go.Proofs.YtocebjbjnfammaaGreat.qlen q≤r:=by
 have h1:=h.rlen _ (fq_ (k:=0) h0)
 have h2:=ie_ (R.getD 0 0)
 refine ⟨2 ^ t * S - (K+K+6),by omega,by omega,fun q hq=>?_⟩
 have:=h.rlen q hq
 omega
theorem dh_{a b:Nat}(h:a≤b)(c:Nat):2 ^ a * c≤2 ^ b * c:=Nat.mul_le_mul_right c (Nat.pow_le_pow_right (by decide) h)
theorem Divs.step{A B Q R Q' X R':List Rat}{n K S t:Nat}{c:Rat}(h:Divs A B Q R n K S t)(hB:ah_ B=B)(h0:0 < B.length)(hl:B.length≤R.length)(hb:∀q∈B,Go.Proofs.YtocebjbjnfammaaGreat.qlen q≤K)
 (hc:c=R.getD (R.length - 1) 0 / B.getD (B.length - 1) 0) (hQ:peq Q' (padd Q (shot (R.length - B.length) c))) (hX:peq X (pmul (shot (R.length - B.length) c) B)) (hR:peq R' (psub R X)) (hr:ah_ R'=R') :
 Divs A B Q' R' n K S (t+1)∧R'.length < R.length:=by
 obtain⟨h1,h2⟩:=lh_ hB h0 hl h.sum hc hQ hX hR hr
 obtain⟨r,hr1,hr2,hr3⟩:=h.left (by omega)
 have hK1:1≤K:=Nat.le_trans (ie_ (B.getD 0 0)) (hb _ (fq_ (k:=0) h0))
 have hw:=h.way
 have hp:2 ^ t * S≤2 ^ (n+1 - B.length) * S:=dh_ (by omega) S
 obtain⟨M,hM⟩:∃M,M+(K+5)=2 ^ (n+1 - B.length) * S:=⟨2 ^ (n+1 - B.length) * S - (K+5),by omega⟩
 obtain⟨_,_,g3,g4⟩:=div_len (M:=M) hr1 hK1 hr3 hb (fun q hq=>by have:=h.qlen q hq;omega) (by omega) hc hQ hX hR (h.free _ (by omega))
 refine ⟨⟨h1,hr,by omega,by omega,fun q hq=>?_,fun q hq=>?_,fun i hi=>?_⟩,h2⟩
 ·have:=g3 q hq
  rw[Nat.pow_succ,Nat.mul_assoc,Nat.mul_comm 2 S,←Nat.mul_assoc];omega
 ·have:=g4 q hq
  omega
 ·rw[hQ i,a8_,e4_,if_neg (by omega),h.free i (by omega)];grind
theorem Divs.room{A B Q R:List Rat}{n K S t:Nat}(h:Divs A B Q R n K S t)(h0:0 < B.length)(hl:B.length≤R.length)(hb:∀q∈B,Go.Proofs.YtocebjbjnfammaaGreat.qlen q≤K){T:Nat}(hT:2 ^ (n+1 - B.length) * S≤T) :
 1≤K∧(∀q∈R,Go.Proofs.YtocebjbjnfammaaGreat.qlen q≤T)∧(∀q∈Q,Go.Proofs.YtocebjbjnfammaaGreat.qlen q≤T)∧Go.Proofs.YtocebjbjnfammaaGreat.qlen (R.getD (R.length - 1) 0 / B.getD (B.length - 1) 0)+K+5≤T:=by
 have hK1:1≤K:=Nat.le_trans (ie_ (B.getD 0 0)) (hb _ (fq_ (k:=0) h0))
 have hw:=h.way
 have hp:2 ^ t * S≤2 ^ (n+1 - B.length) * S:=dh_ (by omega) S
 obtain⟨r,hr1,hr2,hr3⟩:=h.left (by omega)
 refine ⟨hK1,fun q hq=>by have:=h.rlen q hq;omega,fun q hq=>by have:=h.qlen q hq;omega,?_⟩
 have h1:=lp_ (R.getD (R.length - 1) 0) (B.getD (B.length - 1) 0)
 have h2:=cv_ hr1 hr3 (R.length - 1)
 have h3:=cv_ hK1 hb (B.length - 1)
 unfold co at h2 h3
 omega
theorem Divs.over{A B Q R:List Rat}{n K S t:Nat}(h:Divs A B Q R n K S t)(hB:ah_ B=B)(hl:R.length < B.length) :
 isDiv A B (ah_ Q) R∧R.length≤n∧(∀q∈R,Go.Proofs.YtocebjbjnfammaaGreat.qlen q+(K+K+6)≤2 ^ (n+1 - B.length) * S)∧(∀q∈ah_ Q,Go.Proofs.YtocebjbjnfammaaGreat.qlen q≤2 ^ (n+1 - B.length) * S):=by
 have hw:=h.way
 refine ⟨⟨fun i=>?_,by rw[a0_ h.right,a0_ hB];exact hl⟩,by omega,fun q hq=>Nat.le_trans (h.rlen q hq) (dh_ h.most S),fun q hq=>by have:=h.qlen q (fy_ hq);omega⟩
 rw[h.sum i,a8_,a8_,(a1_ (au_ Q) (peq.refl B)) i]
structure Gcds (A B x y:LR_) (X Y E:Nat):Prop where
 way:∀g,common x y g→common A B g
 xr:ah_ x=x
 yr:ah_ y=y
 xl:∀q∈x,qlen q≤X
 yl:∀q∈y,qlen q≤Y
 len:2 ^ (x.length+y.length+y.length) * (X+Y+Y+6)≤E
theorem Gcds.step{A B x y q r:List Rat}{X Y E:Nat}(h:Gcds A B x y X Y E)(hd:isDiv x y q r)(hr:ah_ r=r)(hn:r.length≤x.length)
 (hl:∀u∈r,qlen u+(Y+Y+6)≤2 ^ (x.length+1 - y.length) * (X+(Y+Y+6))):∃Z,Gcds A B y r Y Z E∧r.length < y.length:=by
 have hm:r.length < y.length:=by
  have:=hd.2
  rwa [a0_ hr,a0_ h.yr] at this
 have hp:(2:Nat) ^ 0 * (X+(Y+Y+6))≤2 ^ (x.length+1 - y.length) * (X+(Y+Y+6)):=dh_ (by omega) _
 obtain⟨Z,hZ⟩:∃Z,Z+(Y+Y+6)=2 ^ (x.length+1 - y.length) * (X+(Y+Y+6)):=⟨2 ^ (x.length+1 - y.length) * (X+(Y+Y+6)) - (Y+Y+6),by omega⟩
 refine ⟨Z,⟨fun g hg=>h.way g (common.step hd.1 hg),h.yr,hr,h.yl,fun u hu=>by have:=hl u hu;omega,Nat.le_trans ?_ h.len⟩,hm⟩
 rw[show X+Y+Y+6=X+(Y+Y+6) by omega]
 by_cases hnm:x.length < y.length
 ·have e:x.length+1 - y.length=0:=by omega
  rw[e,Nat.pow_zero,Nat.one_mul] at hZ
  have h1:Y+Z+Z+6≤2 * (X+(Y+Y+6)):=by omega
  refine Nat.le_trans (Nat.mul_le_mul_left _ h1) ?_
  rw[←Nat.mul_assoc,←Nat.pow_succ]
  exact dh_ (by omega) _
 ·have h1:Y+Z+Z+6≤2 * (2 ^ (x.length+1 - y.length) * (X+(Y+Y+6))):=by omega
  refine Nat.le_trans (Nat.mul_le_mul_left _ h1) ?_
  rw[←Nat.mul_assoc,←Nat.mul_assoc,←Nat.pow_succ,←Nat.pow_add]
  exact dh_ (by omega) _
theorem Gcds.room{A B x y:List Rat}{X Y E:Nat}(h:Gcds A B x y X Y E):X≤E∧Y≤E∧2 ^ (x.length+1 - y.length) * (X+(Y+Y+6))≤E+E:=by
 have h1:=h.len
 have h2:(2:Nat) ^ 0 * (X+Y+Y+6)≤2 ^ (x.length+y.length+y.length) * (X+Y+Y+6):=dh_ (by omega) _
 have h3:(2:Nat) ^ (x.length+1 - y.length) * (X+Y+Y+6)≤2 ^ (x.length+y.length+y.length+1) * (X+Y+Y+6):=dh_ (by omega) _
 rw[Nat.pow_succ,Nat.mul_comm _ 2,Nat.mul_assoc] at h3
 rw[show X+(Y+Y+6)=X+Y+Y+6 by omega]
 omega
theorem Gcds.none{A B:List Rat}{X Y E:Nat}(h:Gcds A B [] [] X Y E):isGcd A B []:=⟨h.way _ (common.none _),fun n hn=>by rw[ia_] at hn;omega⟩
theorem Gcds.over{A B x:List Rat}{X Y E:Nat}{c:Rat}(h:Gcds A B x [] X Y E)(h0:0 < x.length)(hc:c=1 / x.getD (x.length - 1) 0) :
 isGcd A B (ah_ (ag_ c x))∧qlen c≤E∧∀q∈ah_ (ag_ c x),qlen q≤E:=by
 have ht:=gf_ h.xr h0
 have hcx:c * x.getD (x.length - 1) 0=1:=by rw[hc];exact Rat.div_mul_cancel ht
 have hc0:c≠0:=fun e=>by rw[e,Rat.zero_mul] at hcx;exact absurd hcx (by decide)
 have hx1:1≤X:=Nat.le_trans (ie_ _) (h.xl _ (fq_ h0))
 have hlc:qlen c≤X:=by
  rw[hc,Rat.div_def,Rat.one_mul]
  exact Nat.le_trans (iq_ _) (cv_ hx1 h.xl (x.length - 1))
 have hE:X+X+12≤E:=by
  have h1:=h.len
  have h2:(2:Nat) ^ 1 * (X+Y+Y+6)≤2 ^ (x.length+([]:LR_).length+([]:LR_).length) * (X+Y+Y+6):=dh_ (by simp;omega) _
  omega
 refine ⟨⟨((h.way _ (common.none x)).scale hc0).of (peq.refl _) (peq.refl _) (au_ _).symm,fun n hn=>?_⟩,by omega,fun q hq=>?_⟩
 ·have h1:plen (ah_ (ag_ c x))=x.length:=by rw[am_ (au_ _),bm_ hc0,a0_ h.xr]
  have h2:n=x.length - 1:=by omega
  rw[fa_,aj_,h2]
  exact hcx
 ·have h1:=el_ hlc h.xl q (fy_ hq)
  omega
end Go.Proofs.YtocebjbjnfammaaGreat
