import Derived.Test.YtocebjbjnfammaaGreatLG2
import Derived.Lib.SmallJoins
import Derived.ChangeArms
import Derived.Test.YtocebjbjnfammaaGreatLG1
import Derived.BigRegion
import Derived.StillTailTactics
import Derived.Deep.RegionHeld3
import Derived.Deep.RegionWith
import Derived.Deep.CutRange
import Derived.Deep.Slices
import Derived.Laws.AppendOwn
set_option maxRecDepth 4096
set_option maxHeartbeats 16000000
namespace Go.Proofs.YtocebjbjnfammaaGreat
open Go.RowKit
open Go.ChangeShapes Go.WideShapes Go.ChangeAt Go.RowKit Go.Deep
section
variable {H:Type} {enc:TypeId × Value→H} {P:Program} {W:World} {base:Nat}
theorem gn_{t e:TypeId}{n0:Nat}{v:Value}{y:DataW H × List MemPlace}(ht:P.underlying t=some (.slice e))(he:P.underlying e=some (.int .u32))(hce:P.cellsOf e=1)
 (hf:DataW.trod enc P W 0 (fun _=>true) true n0 t [v]=some y):∃(a:OA_) (n cap:Nat) (l:List Nat),v=.slice a n cap∧Wd W a n cap l:=by
 rcases open_ints ht he hce hf with ⟨hcs,_⟩ | ⟨a,len',cap',zs,hcs,_,hl,hm,hz,_,hc,hw⟩
 ·simp at hcs
  exact⟨_,_,_,[],hcs,Wd.ofNil W⟩
 ·simp at hcs
  simp only[if_true] at hz
  obtain⟨l,hl'⟩:=Wd.ofInts (W:=W) (a:=some a) hl hm (fun e=>by cases e) (by omega) hw (fun a' e i hi=>by cases e;exact hc i (by omega))
  exact⟨_,_,_,l,hcs,hl'⟩
def frV (neg:Bool) (a:OA_) (n cap:Nat) (b:OA_) (m cap':Nat):Value:=.agg #[.bool neg,.slice a n cap,.slice b m cap']
theorem open_frac{t:TypeId}{f0 f1 f2:Field}{e:TypeId}{v:Value}{d:DataW H}{p:List MemPlace}(hs:P.underlying t=some (.struct #[f0,f1,f2]))(hone:oneCellFields P #[f0,f1,f2]=true)(hC:P.cellsOf t=3)
 (hb:P.underlying f0.type=some .bool) (ht:P.underlying f1.type=some (.slice e)) (ht2:P.underlying f2.type=some (.slice e)) (he:P.underlying e=some (.int .u32)) (hce:P.cellsOf e=1)
 (hv:Value.okWide P W .any base t v) (h:DataW.Trod enc P W 0 (fun _=>true) true t v d p) :
 ∃(neg:Bool) (a:OA_) (n cap:Nat) (l:List Nat) (b:OA_) (m cap':Nat) (k:List Nat),v=frV neg a n cap b m cap'∧Wd W a n cap l∧Wd W b m cap' k:=by
 obtain⟨v0,v1,v2,y0,y1,y2,m,rfl,_,_,h0,h1,h2⟩:=Joins.open_agg3 hs hone hC hv h
 obtain⟨b,e0,_⟩:=DataW.trod_bool hb h0
 simp at e0
 subst e0
 obtain⟨a,n,cap,l,rfl,hw⟩:=gn_ ht he hce h1
 obtain⟨a2,n2,cap2,l2,rfl,hw2⟩:=gn_ ht2 he hce h2
 exact⟨b,a,n,cap,l,a2,n2,cap2,l2,rfl,hw,hw2⟩
end
def qval (neg:Bool) (u v:Nat):Rat:=mkRat (zval neg u) v
def LstQ (q:Rat) (w:World) (e:Ending) (w':World):Prop:=
 ∃(a:OA_) (n cap:Nat) (b:OA_) (m cap':Nat),e=.returned (frV (zneg q.num) a n cap b m cap')∧Wd w' a n cap (dg q.num.natAbs)∧Wd w' b m cap' (dg q.den)∧Below w.heap.size w w'
theorem gx_(neg:Bool):zval neg 0=0:=by unfold zval;cases neg <;> rfl
theorem eb_(neg:Bool){u v:Nat}(h:v=0∨u=0):qval neg u v=0:=by
 unfold qval
 rcases h with rfl | rfl
 ·exact Rat.mkRat_zero _
 ·rw[gx_];exact Rat.zero_mkRat _
theorem zval_div(neg:Bool){u g:Nat}(h:g ∣ u):zval neg u / (g:Int)=zval neg (u / g):=by
 unfold zval
 cases neg
 ·simp
 ·simp only[reduceIte]
  rw[Int.neg_ediv_of_dvd (Int.natCast_dvd_natCast.2 h),Int.natCast_ediv]
theorem e4_(neg:Bool){u v:Nat}(hv:v≠0):(qval neg u v).num=zval neg (u / Nat.gcd u v)∧(qval neg u v).den=v / Nat.gcd u v:=by
 unfold qval
 rw[Rat.mkRat_def,dif_neg hv]
 refine ⟨?_,?_⟩
 ·rw[Rat.num_normalize,d8_,zval_div neg (Nat.gcd_dvd_left u v)]
 ·rw[Rat.den_normalize,d8_]
theorem fx_(q:Rat):qval (zneg q.num) (val (dg q.num.natAbs)) (val (dg q.den))=q:=by
 unfold qval
 rw[a8_,a8_,j4_,Rat.mkRat_self]
theorem ea_:(dg 1).length≤1:=bh_ (by decide)
theorem num_nz{q:Rat}(h:q≠0):q.num≠0:=fun e=>h (Rat.num_eq_zero.1 e)
theorem lv_{q:Rat}(h:q≠0):(q⁻¹).num.natAbs=q.den∧(q⁻¹).den=q.num.natAbs:=by
 have h0:=num_nz h
 rw[Rat.num_inv,Rat.den_inv,if_neg h0,Int.natAbs_mul,Int.natAbs_natCast]
 refine ⟨?_,rfl⟩
 rcases Int.lt_trichotomy q.num 0 with g | g | g
 ·rw[Int.sign_eq_neg_one_of_neg g];simp
 ·exact absurd g h0
 ·rw[Int.sign_eq_one_of_pos g];simp
theorem oe_(neg:Bool)(u v:Nat):qval neg v u=(qval neg u v)⁻¹:=by
 unfold qval
 by_cases hv:v=0
 ·subst hv;rw[gx_,Rat.zero_mkRat,Rat.mkRat_zero,Rat.inv_zero]
 ·by_cases hu:u=0
  ·subst hu;rw[gx_,Rat.zero_mkRat,Rat.mkRat_zero,Rat.inv_zero]
  ·rw[←Rat.divInt_ofNat,←Rat.divInt_ofNat,Rat.inv_divInt]
   unfold zval
   cases neg
   ·rfl
   ·simp only[reduceIte]
    rw[Rat.divInt_neg']
def powOk (q:Rat) (e:Int):Prop:=-8≤e∧e≤8∧(0≤e∨q≠0)
instance powOk.dec (q:Rat) (e:Int):Decidable (powOk q e):=by unfold powOk;infer_instance
theorem lh_(z:Int)(v:Nat):qval (zneg z) z.natAbs v=mkRat z v:=by unfold qval;rw[j4_]
theorem pe_(na nb:Bool)(u v s t:Nat):mkRat (zval na u * zval nb s) (v * t)=qval na u v * qval nb s t:=by
 unfold qval;rw[Rat.mkRat_mul_mkRat]
theorem pd_(neg:Bool)(u v:Nat):qval (!neg) u v = -qval neg u v:=by
 unfold qval
 rw[Rat.neg_mkRat]
 congr 1
 unfold zval;cases neg <;> simp
theorem o2_(na nb:Bool)(u v s t:Nat)(hv:v≠0)(ht:t≠0):mkRat (zval na u * ((t / Nat.gcd v t:Nat):Int)+zval nb s * ((v / Nat.gcd v t:Nat):Int)) (v * (t / Nat.gcd v t))=qval na u v+qval nb s t:=by
 unfold qval
 have hg:Nat.gcd v t≠0:=fun e=>hv (Nat.eq_zero_of_gcd_eq_zero_left e)
 obtain⟨x,hx⟩:=Nat.gcd_dvd_left v t
 obtain⟨y,hy⟩:=Nat.gcd_dvd_right v t
 have h1:v / Nat.gcd v t=x:=by
  have:Nat.gcd v t * x / Nat.gcd v t=x:=Nat.mul_div_cancel_left x (Nat.pos_of_ne_zero hg)
  rw[←hx] at this;exact this
 have h2:t / Nat.gcd v t=y:=by
  have:Nat.gcd v t * y / Nat.gcd v t=y:=Nat.mul_div_cancel_left y (Nat.pos_of_ne_zero hg)
  rw[←hy] at this;exact this
 rw[h1,h2,Rat.mkRat_add_mkRat _ _ hv ht]
 have hy0:y≠0:=fun e=>ht (by rw[hy,e,Nat.mul_zero])
 rw[Rat.mkRat_eq_iff (Nat.mul_ne_zero hv hy0) (Nat.mul_ne_zero hv ht)]
 generalize Nat.gcd v t=g at *
 subst hx
 subst hy
 push_cast
 grind
theorem kx_(z:Int){k:Nat}(hk:k≠0):sgn (z * k)=sgn z:=by
 have hk':0 < (k:Int):=by omega
 unfold sgn
 rcases Int.lt_trichotomy z 0 with h | h | h
 ·have:=Int.mul_neg_of_neg_of_pos h hk'
  rw[if_neg (by omega),if_pos this,if_neg (by omega),if_pos h]
 ·subst h;simp
 ·have:=Int.mul_pos h hk'
  rw[if_neg (by omega),if_neg (by omega),if_neg (by omega),if_neg (by omega)]
theorem f2_(z:Int){v:Nat}(hv:v≠0):sgn (mkRat z v).num=sgn z:=by
 rw[Rat.mkRat_def,dif_neg hv,Rat.num_normalize]
 have hg:Nat.gcd z.natAbs v≠0:=fun e=>hv (Nat.eq_zero_of_gcd_eq_zero_right e)
 have hd:((Nat.gcd z.natAbs v:Nat):Int) ∣ z:=Int.dvd_natAbs.1 (Int.natCast_dvd_natCast.2 (Nat.gcd_dvd_left _ _))
 have h1:=kx_ (z / (Nat.gcd z.natAbs v:Int)) hg
 rw[Int.ediv_mul_cancel hd] at h1
 exact h1.symm
theorem gr_(x y:Int){v t:Nat}(hv:v≠0)(ht:t≠0):mkRat x v - mkRat y t=mkRat (x * (t:Int) - y * (v:Int)) (v * t):=by
 rw[Rat.sub_eq_add_neg,Rat.neg_mkRat,Rat.mkRat_add_mkRat _ _ hv ht,Int.neg_mul,Int.sub_eq_add_neg]
theorem n1_(p q:Rat):p - q=mkRat (p.num * q.den - q.num * p.den) (p.den * q.den):=by
 rw[←gr_ p.num q.num p.den_nz q.den_nz,Rat.mkRat_self,Rat.mkRat_self]
theorem f4_(z:Int):(z < 0∧sgn z = -1)∨(z=0∧sgn z=0)∨(0 < z∧sgn z=1):=by
 unfold sgn
 rcases Int.lt_trichotomy z 0 with h | h | h
 ·left;exact⟨h,by rw[if_neg (by omega),if_pos h]⟩
 ·right;left;exact⟨h,by rw[if_pos h]⟩
 ·right;right;exact⟨h,by rw[if_neg (by omega),if_neg (by omega)]⟩
theorem o6_{p q:Rat}(h:sgn p.num≠sgn q.num):sgn (sgn p.num - sgn q.num)=sgn (p - q).num:=by
 rw[n1_,f2_ _ (Nat.mul_ne_zero p.den_nz q.den_nz)]
 have hk:0 < (q.den:Int):=by have:=q.den_pos;omega
 have hl:0 < (p.den:Int):=by have:=p.den_pos;omega
 generalize (q.den:Int)=k at *
 generalize (p.den:Int)=l at *
 generalize p.num=x at *
 generalize q.num=y at *
 rcases f4_ x with ⟨hx,ex⟩ | ⟨hx,ex⟩ | ⟨hx,ex⟩ <;> rcases f4_ y with ⟨hy,ey⟩ | ⟨hy,ey⟩ | ⟨hy,ey⟩
 ·exact absurd (ex.trans ey.symm) h
 ·have h1:=Int.mul_neg_of_neg_of_pos hx hk
  subst hy
  rw[ex,ey];unfold sgn;simp;rw[if_neg (by omega)];omega
 ·have h1:=Int.mul_neg_of_neg_of_pos hx hk
  have h2:=Int.mul_pos hy hl
  rw[ex,ey];unfold sgn;rw[if_neg (by decide),if_pos (by decide),if_neg (by omega),if_pos (by omega)]
 ·subst hx
  have h2:=Int.mul_neg_of_neg_of_pos hy hl
  rw[ex,ey];unfold sgn;rw[if_neg (by decide),if_neg (by decide),if_neg (by omega),if_neg (by omega)]
 ·exact absurd (ex.trans ey.symm) h
 ·subst hx
  have h2:=Int.mul_pos hy hl
  rw[ex,ey];unfold sgn;rw[if_neg (by decide),if_pos (by decide),if_neg (by omega),if_pos (by omega)]
 ·have h1:=Int.mul_pos hx hk
  have h2:=Int.mul_neg_of_neg_of_pos hy hl
  rw[ex,ey];unfold sgn;rw[if_neg (by decide),if_neg (by decide),if_neg (by omega),if_neg (by omega)]
 ·have h1:=Int.mul_pos hx hk
  subst hy
  rw[ex,ey];unfold sgn;rw[if_neg (by decide),if_neg (by decide),if_neg (by omega),if_neg (by omega)]
 ·exact absurd (ex.trans ey.symm) h
theorem ni_{na nb:Bool}{u v s t:Nat}(hv:v≠0)(ht:t≠0):sgn (zval na u * (t:Int) - zval nb s * (v:Int))=sgn (qval na u v - qval nb s t).num:=by
 unfold qval
 rw[gr_ _ _ hv ht,f2_ _ (Nat.mul_ne_zero hv ht)]
theorem fc_qsign{neg:Bool}{u v:Nat}(hv:v≠0):sgn (qval neg u v).num=sgn (zval neg u):=f2_ _ hv
theorem fc_qsign_zero{q:Rat}:sgn q.num=0↔q=0:=by
 constructor
 ·intro h
  rcases f4_ q.num with ⟨_,e⟩ | ⟨e,_⟩ | ⟨_,e⟩
  ·omega
  ·exact Rat.num_eq_zero.1 e
  ·omega
 ·intro h;subst h;rfl
def mg_:List UInt8→Nat
 | [] => 0
 | x :: r=>if x.toNat=47∨x.toNat=46 then 0 else mg_ r+1
def oc_ (l:List UInt8):List UInt8:=l.take (mg_ l)
def jj_ (l:List UInt8):List UInt8:=l.drop (mg_ l+1)
def fbyte (l:List UInt8):Nat:=(l.getD (mg_ l) 0).toNat
def o5_ (l:List UInt8):Int:=
 if 0≤qi_ (oc_ l) then 1 else if mg_ l=l.length then 0 else if 0≤j5_ (jj_ l) then 1 else if fbyte l≠46∧or_ (jj_ l)=0 then 2 else 0
def figPlace (l:List UInt8):Int:=
 if 0≤qi_ (oc_ l) then qi_ (oc_ l) else if mg_ l=l.length then 0 else if 0≤j5_ (jj_ l) then ((mg_ l+1:Nat):Int)+j5_ (jj_ l) else if fbyte l≠46∧or_ (jj_ l)=0 then ((mg_ l+1:Nat):Int) else 0
def pp_ (l:List UInt8):Rat:=
 if 0≤qi_ (oc_ l) then 0 else if mg_ l=l.length then ((zread (oc_ l):Int):Rat) else if 0≤j5_ (jj_ l) then 0
 else if fbyte l=46 then mkRat (zval (decide ((l.getD 0 0).toNat=45)) ((zread (oc_ l)).natAbs * 10 ^ (jj_ l).length+or_ (jj_ l))) (10 ^ (jj_ l).length)
 else if or_ (jj_ l)=0 then 0 else mkRat (zread (oc_ l)) (or_ (jj_ l))



theorem ij_(x:Nat)(w:World)(hx:x < 4294967296):Calls Tryz.prog 174 #[.int .u32 (x:Int)] w fun e w'=>e=.returned (.int .i64 ((blen x:Nat):Int))∧w=w':=
 (limb_len (x:Int) w (by omega) (by omega)).mono fun e w' ⟨he,hw⟩=>⟨by rw[he];simp only[Int.toNat_natCast,kb_ (show x < 18446744073709551616 by omega)],hw⟩
theorem twos_len(a:OA_)(n cap:Nat)(l:List Nat)(w:World)(h:Wd w a n cap l)(hn:n≤17592183947264) :
 Calls Tryz.prog 183 #[.slice a n cap] w fun e w'=>e=.returned (.int .i64 ((blen (val l):Nat):Int))∧w=w':=by
 obtain⟨hb1,hb2⟩:=h.bound
 have H:=hd_ h
 clear h
 go_enter Tryz.func183,Tryz.ntmps183
 go_wp2
 go_loop [3] (fun i=>∃k:Nat,k≤n∧i=.int .i64 ((k:Int) - 1)∧Hid (top l k=0)) (fun i=>(intOf i+1).toNat)
 case atStart=>exact⟨n,by omega,by go_num,hd_ (gs_ (by have:=H.out.len;omega))⟩
 case round=>
  obtain⟨k,hk,rfl,Ht⟩:=hrel
  cases k with
  | zero=>
    have Hv:Hid (blen (val l)=0):=hd_ (by rw[←gm_,Ht.out];rfl)
    go_wp2
    go_ret
    exact⟨fq_ (by rw[Hv.out];rfl),rfl⟩
  | succ k=>
    have e1:((k+1:Nat):Int) - 1=(k:Int):=by omega
    rw[e1]
    clear e1
    obtain⟨b,off,rfl,hc⟩:=H.out.at (by omega)
    have hck:=hc k (by omega)
    have hx:=b0_ H.out.ok k
    clear hc
    by_cases hz:atw l k=0
    ·have hzb:(((atw l k:Nat):Int) == 0)=true:=by simp[hz]
     have Hz:=hd_ hz
     clear hz
     go_wp2
     go_round
     case rel=>exact⟨k,by omega,by go_num,hd_ (by rw[ca_,Hz.out,Ht.out])⟩
     case measure=>simp[intOf]
    ·have hzb:(((atw l k:Nat):Int) == 0)=false:=by simp[hz]
     have Hfin:=hd_ (jb_ H.out.ok Ht.out hz)
     have hbl:blen (atw l k)≤32:=blen_le.2 (b0_ H.out.ok k)
     clear hz
     go_wp2_with fail
     refine (ij_ _ _ hx).mono ?_
     rintro e w' ⟨rfl,rfl⟩
     generalize blen (atw l k)=y at *
     go_wp2
     go_ret
     exact⟨fq_ (by rw[Hfin.out];omega),rfl⟩





theorem bu_{w:World}{g:Nat}{x y z:Value}{t:TypeId}(h:w.heap[g]? = some (.cells #[x,y,z] t (0,0)))(u v q:Value):(((w.setCell ⟨g,0,none⟩ u).setCell ⟨g,1,none⟩ v).setCell ⟨g,2,none⟩ q).heap[g]? = some (.cells #[u,v,q] t (0,0)):=by
 have h1:=e1_ (e1_ (e1_ h 0 u) 1 v) 2 q
 simpa using h1
theorem jy_{b:Bool}{a:Option Addr}{n cap:Nat}{c:Option Addr}{m cap':Nat}:∀(j:Nat) (k:Int),(#[Value.bool b,.slice a n cap,.slice c m cap']:Array Value)[j]?≠some (.int .u32 k):=by
 intro j k
 match j with
 | 0=>simp
 | 1=>simp
 | 2=>simp
 | j+3=>simp
theorem Wd.stored3{w:World}{a:Option Addr}{n cap:Nat}{l:List Nat}(h:Wd w a n cap l){g:Nat}{b:Bool}{x:Option Addr}{y z:Nat}{x':Option Addr}{y' z':Nat}{t:TypeId}(hg:w.heap[g]? = some (.cells #[.bool b,.slice x y z,.slice x' y' z'] t (0,0)))(c:Bool)(e:OA_)(i j:Nat)(v:Value) :
 Wd (((w.setCell ⟨g,0,none⟩ (.bool c)).setCell ⟨g,1,none⟩ (.slice e i j)).setCell ⟨g,2,none⟩ v) a n cap l:=by
 have h1:=h.stored hg jy_ 0 (.bool c)
 have g1:(w.setCell ⟨g,0,none⟩ (.bool c)).heap[g]? = some (.cells #[.bool c,.slice x y z,.slice x' y' z'] t (0,0)):=by simpa using e1_ hg 0 (.bool c)
 have h2:=h1.stored g1 jy_ 1 (.slice e i j)
 have g2:((w.setCell ⟨g,0,none⟩ (.bool c)).setCell ⟨g,1,none⟩ (.slice e i j)).heap[g]? = some (.cells #[.bool c,.slice e i j,.slice x' y' z'] t (0,0)):=by simpa using e1_ g1 1 (.slice e i j)
 exact h2.stored g2 jy_ 2 v
theorem a3_{w w1:World}{g:Nat}(h:Below w.heap.size w w1)(hg:w.heap.size≤g)(u v q:Value):Below w.heap.size w (((w1.setCell ⟨g,0,none⟩ u).setCell ⟨g,1,none⟩ v).setCell ⟨g,2,none⟩ q):=((h.setCell (p:=⟨g,0,none⟩) hg u).setCell (p:=⟨g,1,none⟩) hg v).setCell (p:=⟨g,2,none⟩) hg q

theorem js_(w:World)(x y z:Array Value)(t s r:TypeId) :
 (((w.alloc (.cells x t)).alloc (.cells y s)).alloc (.cells z r)).heap[w.heap.size]? = some (.cells x t (0,0))∧(((w.alloc (.cells x t)).alloc (.cells y s)).alloc (.cells z r)).heap[w.heap.size+1]? = some (.cells y s (0,0))∧(((w.alloc (.cells x t)).alloc (.cells y s)).alloc (.cells z r)).heap[w.heap.size+1+1]? = some (.cells z r (0,0)):=by
 obtain⟨h1,h2⟩:=d0_ w (((w.alloc (.cells x t)).alloc (.cells y s)).alloc (.cells z r)) x y t s (aa_ _ _)
 refine ⟨h1,h2,?_⟩
 have h3:=ao_ ((w.alloc (.cells x t)).alloc (.cells y s)) z r
 rw[aw_,aw_] at h3
 exact h3
theorem ck_{w:World}{A B:Nat}{x y z u:Value}{t s:TypeId}(h1:w.heap[A]? = some (.cells #[x,y] t (0,0)))(h2:w.heap[B]? = some (.cells #[z,u] s (0,0))) :
 w.cell? ⟨A,0,none⟩=some x∧w.cell? ⟨A,1,none⟩=some y∧w.cell? ⟨B,0,none⟩=some z∧w.cell? ⟨B,1,none⟩=some u:=⟨ad_ h1 0,ad_ h1 1,ad_ h2 0,ad_ h2 1⟩
theorem b5_{w:World}{A g:Nat}{o:Obj}(h:w.heap[A]? = some o)(hne:A≠g)(i:Nat)(u:Value):(w.setCell ⟨g,i,none⟩ u).heap[A]? = some o:=(Below.heap_setCell w ⟨g,i,none⟩ u A hne).trans h
theorem j2_{w:World}{A B g:Nat}{x y z u:Value}{t s:TypeId}(h1:w.heap[A]? = some (.cells #[x,y] t (0,0)))(h2:w.heap[B]? = some (.cells #[z,u] s (0,0)))(hA:A≠g)(hB:B≠g)(p q:Value) :
 ((w.setCell ⟨g,0,none⟩ p).setCell ⟨g,1,none⟩ q).cell? ⟨A,0,none⟩=some x∧((w.setCell ⟨g,0,none⟩ p).setCell ⟨g,1,none⟩ q).cell? ⟨A,1,none⟩=some y∧((w.setCell ⟨g,0,none⟩ p).setCell ⟨g,1,none⟩ q).cell? ⟨B,0,none⟩=some z∧((w.setCell ⟨g,0,none⟩ p).setCell ⟨g,1,none⟩ q).cell? ⟨B,1,none⟩=some u:=
 ck_ (b5_ (b5_ h1 hA 0 p) hA 1 q) (b5_ (b5_ h2 hB 0 p) hB 1 q)
theorem l5_(neg:Bool)(u v:Nat):zval neg (u+v)=zval neg u+zval neg v:=by unfold zval;cases neg <;> simp <;> omega
theorem mo_{na nb:Bool}{u v:Nat}(hne:na≠nb)(h:u < v):zval nb (v - u)=zval na u+zval nb v:=by
 unfold zval;cases na <;> cases nb <;> simp at hne ⊢ <;> omega
theorem ma_{na nb:Bool}{u v:Nat}(hne:na≠nb)(h:v≤u):zval na (u - v)=zval na u+zval nb v:=by
 unfold zval;cases na <;> cases nb <;> simp at hne ⊢ <;> omega
theorem zval_mul(na nb:Bool)(u v:Nat):zval (!(na == nb)) (u * v)=zval na u * zval nb v:=by
 unfold zval;cases na <;> cases nb <;> simp[Int.neg_mul,Int.mul_neg]
theorem bz_{w:World}{A g:Nat}{o:Obj}(h:w.heap[A]? = some o)(hne:A≠g)(u v q:Value):(((w.setCell ⟨g,0,none⟩ u).setCell ⟨g,1,none⟩ v).setCell ⟨g,2,none⟩ q).heap[A]? = some o:=
 b5_ (b5_ (b5_ h hne 0 u) hne 1 v) hne 2 q
theorem e9_(w:World)(x y z:Array Value)(t s r:TypeId) :
 (((w.alloc (.cells x t)).alloc (.cells y s)).alloc (.cells z r)).heap[w.heap.size]? = some (.cells x t (0,0))∧(((w.alloc (.cells x t)).alloc (.cells y s)).alloc (.cells z r)).heap[w.heap.size+1]? = some (.cells y s (0,0))∧(((w.alloc (.cells x t)).alloc (.cells y s)).alloc (.cells z r)).heap[w.heap.size+1+1]? = some (.cells z r (0,0)):=js_ w x y z t s r






theorem bn_{P:Program}{fn:Func}{p u:Tmp}{ty:TypeId}(h:fn.results=#[.cell p ty,.tmp u])(tmps:Array Value)(w:World)(g:Nat)(t:TypeId)(cs:Array Value)(fr:Nat × Nat)(d:TypeDesc)
 (hp:tmps.getD p undef=.pointer (some ⟨g,0,none⟩)) (hg:w.heap[g]? = some (.cells cs t fr))
 (hu:P.underlying ty=some d) (hd:(match d with | .struct _ | .array _ _=>true | _=>false)=true) (hi:(P.info? ty).map (·.size)=some cs.size) :
 (results fn tmps).run P w=.ok (.tuple #[.agg cs,tmps.getD u undef]) w:=by
 rw[results_cell_tmp h,hp]
 simp[asAddr,run_loadVar_row w g t ty cs fr d hg hu hd hi]

theorem dj_{w:World}{A g:Nat}{o:Obj}(h:w.heap[A]? = some o)(hne:A≠g)(u v:Value):((w.setCell ⟨g,0,none⟩ u).setCell ⟨g,1,none⟩ v).heap[A]? = some o:=b5_ (b5_ h hne 0 u) hne 1 v
theorem qval_len(neg:Bool)(u v:Nat):(dg (qval neg u v).num.natAbs).length≤(dg u).length∧(dg (qval neg u v).den).length≤(dg v).length+1:=by
 by_cases hv:v=0
 ·rw[eb_ neg (.inl hv),show ((0:Rat).num).natAbs=0 from rfl,show (0:Rat).den=1 from rfl,co_]
  have h1:(dg 1).length≤1:=bh_ (by decide)
  exact⟨by simp,by omega⟩
 ·obtain⟨h1,h2⟩:=e4_ neg (u:=u) hv
  rw[h1,h2,d8_]
  exact⟨ax_ (Nat.div_le_self _ _),Nat.le_trans (ax_ (Nat.div_le_self _ _)) (by omega)⟩
theorem den_nz(q:Rat):val (dg q.den)≠0:=by rw[a8_];exact q.den_nz


theorem id_(neg:Bool)(a:OA_)(n cap:Nat)(b:OA_)(m cap':Nat)(k:Int)(w:World) :
 Calls Tryz.prog 8 #[frV neg a n cap b m cap',.int .i64 k] w (bo_ (.bool (decide (k < (n:Int)) || decide (k < (m:Int)))) w):=by
 unfold frV
 go_enter Tryz.func8,Tryz.ntmps8
 by_cases h:k < (n:Int)
 ·rw[decide_eq_true h,Bool.true_or]
  go_wp2
  go_ret
  exact⟨rfl,aa_ _ _⟩
 ·rw[decide_eq_false h,Bool.false_or]
  go_wp2
  go_ret
  exact⟨rfl,aa_ _ _⟩
open Go.ChangeShapes Go.WideShapes Go.ChangeAt Go.RowKit Go.Deep
def Frs (w:World) (a:OA_) (n cap:Nat) (ls:List (Bool × List Nat × List Nat)):Prop:=
 ls.length=n∧n≤cap∧cap≤9223372036854775807∧(a=none→cap=0)∧(n=0∨∃b off,a=some ⟨b,off,none⟩∧∀j,j < n→∃(a':OA_) (n' c':Nat) (b':OA_) (m' d':Nat),
  w.cell? ⟨b,off+j * 3,none⟩=some (.bool (ls.getD j (false,[],[])).1)∧w.cell? ⟨b,off+j * 3+1,none⟩=some (.slice a' n' c')∧w.cell? ⟨b,off+j * 3+2,none⟩=some (.slice b' m' d')∧
   Wd w a' n' c' (ls.getD j (false,[],[])).2.1∧Wd w b' m' d' (ls.getD j (false,[],[])).2.2)
theorem Frs.len{w:World}{a:Option Addr}{n cap:Nat}{ls:List (Bool × List Nat × List Nat)}(h:Frs w a n cap ls):ls.length=n:=h.1
theorem Frs.bound{w:World}{a:Option Addr}{n cap:Nat}{ls:List (Bool × List Nat × List Nat)}(h:Frs w a n cap ls):n≤cap∧cap≤9223372036854775807:=⟨h.2.1,h.2.2.1⟩
theorem Frs.later{w w':World}{a:Option Addr}{n cap:Nat}{ls:List (Bool × List Nat × List Nat)}(h:Frs w a n cap ls)(hb:Below w.heap.size w w'):Frs w' a n cap ls:=
 ⟨h.1,h.2.1,h.2.2.1,h.2.2.2.1,h.2.2.2.2.imp id fun ⟨b,off,e,hc⟩=>⟨b,off,e,fun j hj=>by
   obtain⟨a',n',c',b',m',d',h1,h2,h3,h4,h5⟩:=hc j hj
   exact⟨a',n',c',b',m',d',cell_later hb h1,cell_later hb h2,cell_later hb h3,h4.later hb,h5.later hb⟩⟩⟩
theorem Frs.l_ {w w':World}{x0 x1 x2 x3}(h:Frs w x0 x1 x2 x3)(b:Below w.heap.size w w'):Hid (Frs w' x0 x1 x2 x3):=Lib.hid (h.later b)
theorem Frs.ofNil(w:World):Frs w none 0 0 []:=⟨rfl,Nat.le_refl _,by omega,fun _=>rfl,.inl rfl⟩
section
variable {H:Type} {enc:TypeId × Value→H} {P:Program} {W:World} {base:Nat}
end
open Go.ChangeShapes Go.WideShapes Go.ChangeAt Go.RowKit Go.Deep
structure Fx where
 s:Bool
 a:Option Addr
 n:Nat
 c:Nat
 la:List Nat
 b:Option Addr
 m:Nat
 d:Nat
 lb:List Nat
def Fx.zero:Fx:=⟨false,none,0,0,[],none,0,0,[]⟩
instance:Inhabited Fx:=⟨Fx.zero⟩
def Fx.cells (x:Fx):List Value:=[.bool x.s,.slice x.a x.n x.c,.slice x.b x.m x.d]
def Fx.ok (w:World) (x:Fx):Prop:=Wd w x.a x.n x.c x.la∧Wd w x.b x.m x.d x.lb
def Fx.q (x:Fx):Rat:=qval x.s (val x.la) (val x.lb)
theorem Fx.ok.later{w w':World}{x:Fx}(h:x.ok w)(hb:Below w.heap.size w w'):x.ok w':=⟨h.1.later hb,h.2.later hb⟩
def Fxs (w:World) (a:OA_) (n cap:Nat) (L:List Fx):Prop:=
 L.length=n∧n≤cap∧cap≤9223372036854775807∧(a=none→cap=0)∧(∀x∈L,x.ok w)∧(n=0∨∃b off,a=some ⟨b,off,none⟩∧∀j,j < n→
  w.cell? ⟨b,off+j * 3,none⟩=some (.bool (L.getD j Fx.zero).s)∧w.cell? ⟨b,off+j * 3+1,none⟩=some (.slice (L.getD j Fx.zero).a (L.getD j Fx.zero).n (L.getD j Fx.zero).c)∧w.cell? ⟨b,off+j * 3+2,none⟩=some (.slice (L.getD j Fx.zero).b (L.getD j Fx.zero).m (L.getD j Fx.zero).d))
theorem Fxs.len{w:World}{a:Option Addr}{n cap:Nat}{L:List Fx}(h:Fxs w a n cap L):L.length=n:=h.1
theorem Fxs.bound{w:World}{a:Option Addr}{n cap:Nat}{L:List Fx}(h:Fxs w a n cap L):n≤cap∧cap≤9223372036854775807:=⟨h.2.1,h.2.2.1⟩
theorem Fxs.ok{w:World}{a:Option Addr}{n cap:Nat}{L:List Fx}(h:Fxs w a n cap L){x:Fx}(hx:x∈L):x.ok w:=h.2.2.2.2.1 x hx
theorem Fxs.later{w w':World}{a:Option Addr}{n cap:Nat}{L:List Fx}(h:Fxs w a n cap L)(hb:Below w.heap.size w w'):Fxs w' a n cap L:=
 ⟨h.1,h.2.1,h.2.2.1,h.2.2.2.1,fun x hx=>(h.ok hx).later hb,h.2.2.2.2.2.imp id fun ⟨b,off,e,hc⟩=>⟨b,off,e,fun j hj=>by
   obtain⟨h1,h2,h3⟩:=hc j hj
   exact⟨cell_later hb h1,cell_later hb h2,cell_later hb h3⟩⟩⟩
theorem Fxs.l_ {w w':World}{x0 x1 x2 x3}(h:Fxs w x0 x1 x2 x3)(b:Below w.heap.size w w'):Hid (Fxs w' x0 x1 x2 x3):=Lib.hid (h.later b)
theorem Fxs.at{w:World}{a:Option Addr}{n cap:Nat}{L:List Fx}(h:Fxs w a n cap L){j:Nat}(hj:j < n):∃b off,a=some ⟨b,off,none⟩∧
 w.cell? ⟨b,off+j * 3,none⟩=some (.bool (L.getD j Fx.zero).s)∧w.cell? ⟨b,off+j * 3+1,none⟩=some (.slice (L.getD j Fx.zero).a (L.getD j Fx.zero).n (L.getD j Fx.zero).c)∧w.cell? ⟨b,off+j * 3+2,none⟩=some (.slice (L.getD j Fx.zero).b (L.getD j Fx.zero).m (L.getD j Fx.zero).d)∧(L.getD j Fx.zero).ok w:=by
 rcases h.2.2.2.2.2 with h0 | ⟨b,off,e,hc⟩
 ·omega
 ·obtain⟨h1,h2,h3⟩:=hc j hj
  refine ⟨b,off,e,h1,h2,h3,h.ok ?_⟩
  have hl:j < L.length:=by rw[h.len];exact hj
  rw[List.getD_eq_getElem?_getD,List.getElem?_eq_getElem hl]
  exact List.getElem_mem hl
theorem Frs.to{w:World}{a:Option Addr}{n cap:Nat}{ls:List (Bool × List Nat × List Nat)}(h:Frs w a n cap ls):∃L,Fxs w a n cap L:=by
 obtain⟨h1,h2,h3,h4,h5⟩:=h
 rcases h5 with h0 | ⟨b,off,e,hc⟩
 ·exact⟨[],h0.symm▸rfl,h2,h3,h4,fun x hx=>(by cases hx),.inl h0⟩
 ·have each:∀j,j < n→∃x:Fx,w.cell? ⟨b,off+j * 3,none⟩=some (.bool x.s)∧w.cell? ⟨b,off+j * 3+1,none⟩=some (.slice x.a x.n x.c)∧w.cell? ⟨b,off+j * 3+2,none⟩=some (.slice x.b x.m x.d)∧x.ok w:=fun j hj=>by
   obtain⟨a',n',c',b',m',d',q1,q2,q3,q4,q5⟩:=hc j hj
   exact⟨⟨_,a',n',c',_,b',m',d',_⟩,q1,q2,q3,q4,q5⟩
  obtain⟨F,hF⟩:=choose_lt each
  have hg:∀j,j < n→((List.range n).map F).getD j Fx.zero=F j:=fun j hj=>by rw[List.getD_eq_getElem?_getD,List.getElem?_map,List.getElem?_range hj];rfl
  refine ⟨(List.range n).map F,by simp,h2,h3,h4,fun x hx=>?_,.inr ⟨b,off,e,fun j hj=>?_⟩⟩
  ·obtain⟨j,hj,rfl⟩:=List.mem_map.1 hx
   exact (hF j (List.mem_range.1 hj)).2.2.2
  ·rw[hg j hj]
   exact⟨(hF j hj).1,(hF j hj).2.1,(hF j hj).2.2.1⟩
def clean (w:World) (v:Value):Prop:=∀g,v.ownBlock=some g→∀(j:Nat) (k:Int),w.cell? ⟨g,j,none⟩≠some (.int .u32 k)
theorem jm_(w:World):clean w (.slice none 0 0):=fun g h=>by simp[Value.ownBlock] at h
theorem Wd.aside{w w':World}{v:Value}{a:Option Addr}{n c:Nat}{l:List Nat}(h:Wd w a n c l)(hc:clean w v)(hg:w.grownBy w' v.ownBlock):Wd w' a n c l:=by
 refine ⟨h.1,h.2.1,h.2.2.1,h.2.2.2.1,h.2.2.2.2.1,h.2.2.2.2.2.imp id fun ⟨b,off,e,hcl⟩=>⟨b,off,e,fun j hj=>?_⟩⟩
 have h1:=hcl j hj
 have hlt:b < w.heap.size:=by
  rcases Nat.lt_or_ge b w.heap.size with h2 | h2
  ·exact h2
  ·rw[World.cell?,Array.getElem?_eq_none h2] at h1;cases h1
 rw[World.cell?_of_block (hg.block b hlt (fun e2=>hc b e2.symm _ _ h1))]
 exact h1
def dy_ (l:List Value):Prop:=∀u∈l,∀k:Int,u≠.int .u32 k
theorem hb_(x:Fx):dy_ x.cells:=by
 intro u hu k
 simp[Fx.cells] at hu
 rcases hu with rfl | rfl | rfl <;> simp
theorem d4_(L:List Fx):dy_ (L.flatMap Fx.cells):=fun u hu k=>by
 obtain⟨x,_,hx⟩:=List.mem_flatMap.1 hu
 exact hb_ x u hx k
theorem bx_{l m:List Value}(h:dy_ l)(k:dy_ m):dy_ (l ++ m):=fun u hu=>(List.mem_append.1 hu).elim (h u) (k u)
theorem db_{w:World}{g:Nat}{n c:Nat}{cur:Array Value}{e:TypeId}{fr:Nat × Nat}(hg:w.heap[g]? = some (.cells cur e fr))(h:dy_ cur.toList):clean w (.slice (some ⟨g,0,none⟩) n c):=by
 intro g' hg' j k hc
 simp[Value.ownBlock] at hg'
 subst hg'
 rw[cell_of_row w g j cur e fr hg] at hc
 have hm:Value.int .u32 k∈cur:=Array.mem_of_getElem? hc
 exact h _ (by simpa using hm) k rfl
theorem dv_{z:Array Value}(h:dy_ z.toList)(n:Nat):dy_ (Builtin.zeroCells z n).toList:=by
 intro u hu k
 have hm:u∈Builtin.zeroCells z n:=by simpa using hu
 unfold Builtin.zeroCells at hm
 simp at hm
 obtain⟨i,h1,h2⟩:=hm
 have hz:0 < z.size:=Nat.pos_of_ne_zero (fun e=>by rw[e,Nat.mul_zero] at h1;omega)
 have hi:i % z.size < z.size:=Nat.mod_lt _ hz
 rw[getElem!_pos z _ hi] at h2
 exact h u (by rw[←h2];simp) k
theorem gy_{P:Program}(w:World){ops:Array Oper}{rest:List Oper}{o:Oper}{a:Act}{Q:Exit→Act→World→Prop}(hgd:o.guard=none)(s x:Operand)(t:TypeId)
 (ho:o.op=.call { callee:=.builtin .append,args:=#[s,x],argTypes:=#[t,t] })
 (base:Nat) (e:TypeId) (i:TypeInfo) (z:Value) (size bytes:Nat) (ht:P.underlying t=some (.slice e)) (hi:P.info? e=some i) (hz:i.zero=some z)
 (hsize:i.size=size) (hby:i.bytes=bytes) (hzs:z.cells.size=size) (hsz:0 < size)
 (v:Value) (n:Nat) (xs:List Value) (hs:a.eval s=v) (hown:w.ownsRow base e size v n xs)
 (ad:Addr) (m c:Nat) (news:List Value) (hx:a.eval x=.slice (some ad) m c) (hl:news.length=m * size) (hnews:∀j u,news[j]? = some u→w.cell? (ad.add j)=some u) (h1:∀u∈news,u.oneCell'=true)
 (h63:n+m≤maxLen) (hbytes:(n+m) * bytes≤140737488355328) (hbase:base≤w.heap.size) (hm:0 < m) (hcl:clean w v) (hzc:dy_ z.cells.toList) (hnc:dy_ news) (hxc:dy_ xs)
 (h:∀v' w',w'.ownsRow base e size v' (n+m) (xs ++ news)→w.grownBy w' v.ownBlock→clean w' v'→wpList P ops Q rest (a.put o.dst v') w'):wpList P ops Q (o :: rest) a w:=by
 refine wpList_plain hgd fun _ hK=>?_
 obtain⟨v',w',hr,h2,h3,h4⟩:=run_append_own (P:=P) w base t o.type e i z size bytes ht hi hz hsize hby hzs hsz v n xs hown ad m c news hl hnews h1 h63 hbytes hbase
 have h5:clean w' v':=by
  subst hsize hby
  rcases hown.2 with ⟨rfl,rfl⟩ | ⟨g,cap,cur,rfl,hbg,hg,hnc',hcm,hcs,htake⟩
  ·have er:=run_append_nil (P:=P) w t o.type e i z ht hi hz ad m c news hl hnews hm (by simp only[maxLen] at h63;omega) (by simp only[Nat.zero_add] at hbytes;omega)
   rw[er] at hr
   simp only[Result.ok.injEq] at hr
   obtain⟨rfl,rfl⟩:=hr
   exact db_ (heap_alloc_new w.drew _) (by simp only[Array.toList_append];exact bx_ hnc (dv_ hzc _))
  ·by_cases hroom:n+m≤cap
   ·have er:=run_append_room (P:=P) w t o.type e i ht hi g n cap cur hg ad m c news hl hnews h1 hroom (by rw[hl,hcs,←Nat.add_mul];exact Nat.mul_le_mul_right _ hroom)
    rw[er] at hr
    simp only[Result.ok.injEq] at hr
    obtain⟨rfl,rfl⟩:=hr
    have hcu:dy_ cur.toList:=fun u hu k e2=>by
     obtain⟨j,hj,e3⟩:=List.getElem_of_mem hu
     refine hcl g rfl j k ?_
     rw[cell_of_row w g j cur e (0,0) hg,←e2,←e3]
     simp
    refine db_ (setRow_heap w g cur _ e _ hg) ?_
    refine bx_ (bx_ (fun u hu=>hcu u (List.mem_of_mem_take hu)) hnc) (fun u hu=>hcu u (List.mem_of_mem_drop hu))
   ·have holds:∀j u,xs[j]? = some u→w.cell? ((⟨g,0,none⟩:Addr).add j)=some u:=hown.cells (g:=g) rfl
    have er:=run_append_grow (P:=P) w t o.type e i z ht hi hz ⟨g,0,none⟩ n cap xs hown.1 holds ad m c news hl hnews (by omega) (by simp only[maxLen] at h63;omega) (growslice_fits (by omega) hbytes)
    rw[er] at hr
    simp only[Result.ok.injEq] at hr
    obtain⟨rfl,rfl⟩:=hr
    exact db_ (heap_alloc_new w.drew _) (by simp only[Array.toList_append];exact bx_ (bx_ hxc hnc) (dv_ hzc _))
 unfold Oper.wp execOp
 simp only[ho,resolve,invoke,builtin,Sem.run_bind,Sem.run_pure,Result.andThen_ok,List.map_toArray,List.map_cons,List.map_nil,hs,hx,hr]
 exact hK _ _ (h v' w' h2 h3 h5)
theorem bv_(L:List Fx):(L.flatMap Fx.cells).length=L.length * 3:=by
 induction L with
 | nil=>rfl
 | cons x r ih=>rw[List.flatMap_cons,List.length_append,ih];simp[Fx.cells];omega
theorem e0_:∀(L:List Fx) (j:Nat),j < L.length→(L.flatMap Fx.cells)[j * 3]? = some (.bool (L.getD j Fx.zero).s)∧(L.flatMap Fx.cells)[j * 3+1]? = some (.slice (L.getD j Fx.zero).a (L.getD j Fx.zero).n (L.getD j Fx.zero).c)∧(L.flatMap Fx.cells)[j * 3+2]? = some (.slice (L.getD j Fx.zero).b (L.getD j Fx.zero).m (L.getD j Fx.zero).d)
 | [],j,h=>by simp at h
 | x :: r,0,_=>by simp[Fx.cells]
 | x :: r,j+1,h=>by
   have ih:=e0_ r j (by simpa using h)
   have e:∀i,(List.flatMap Fx.cells (x :: r))[(j+1) * 3+i]? = (r.flatMap Fx.cells)[j * 3+i]?:=fun i=>by
    rw[List.flatMap_cons,List.getElem?_append_right (by simp[Fx.cells];omega)]
    congr 1
    simp[Fx.cells];omega
   have e0:=e 0
   simp only[Nat.add_zero] at e0
   rw[e0,e 1,e 2]
   simpa using ih
theorem Fxs.own{w:World}{base:Nat}{e:TypeId}{a:Option Addr}{n cap:Nat}{L:List Fx}(h:w.ownsRow base e 3 (.slice a n cap) L.length (L.flatMap Fx.cells))(hn:n=L.length)(hok:∀x∈L,x.ok w):Fxs w a n cap L:=by
 subst hn
 rcases h.2 with ⟨h',h0⟩ | ⟨g,cap',cur,h',hb,hg,hnc,hcm,hcs,htake⟩
 ·simp only[Value.slice.injEq] at h'
  obtain⟨rfl,_,rfl⟩:=h'
  exact⟨rfl,by omega,by omega,fun _=>rfl,hok,.inl h0⟩
 ·simp only[Value.slice.injEq] at h'
  obtain⟨rfl,_,rfl⟩:=h'
  refine ⟨rfl,hnc,by unfold maxLen at hcm;omega,fun e=>(by cases e),hok,.inr ⟨g,0,rfl,fun j hj=>?_⟩⟩
  have key:∀i u,(L.flatMap Fx.cells)[i]? = some u→w.cell? ⟨g,0+i,none⟩=some u:=fun i u hu=>by
   have h9:=h.cells (g:=g) rfl i u hu
   rw[add_plain] at h9
   exact h9
  obtain⟨h1,h2,h3⟩:=e0_ L j hj
  exact⟨key _ _ h1,by rw[Nat.add_assoc];exact key _ _ h2,by rw[Nat.add_assoc];exact key _ _ h3⟩
def OwnC (w:World) (base:Nat) (e:TypeId) (v:Value) (L:List Fx):Prop:=w.ownsRow base e 3 v L.length (L.flatMap Fx.cells)∧clean w v
theorem OwnC.nil(w:World)(base:Nat)(e:TypeId):OwnC w base e (.slice none 0 0) []:=⟨World.ownsRow_nil _ _ _ _,jm_ _⟩
theorem OwnC.kept{w w':World}{base:Nat}{e:TypeId}{v:Value}{L:List Fx}(h:OwnC w base e v L)(hk:∀k,base≤k→k < w.heap.size→w'.heap[k]? = w.heap[k]?):OwnC w' base e v L:=by
 obtain⟨⟨h1,h2⟩,h3⟩:=h
 rcases h2 with ⟨rfl,h0⟩ | ⟨g,cap,cur,rfl,hbg,hg,h4,h5,h6,h7⟩
 ·exact⟨⟨h1,.inl ⟨rfl,h0⟩⟩,jm_ _⟩
 ·have hlt:g < w.heap.size:=(Array.getElem?_eq_some_iff.1 hg).1
  have hg':w'.heap[g]? = w.heap[g]?:=hk g hbg hlt
  refine ⟨⟨h1,.inr ⟨g,cap,cur,rfl,hbg,hg'.trans hg,h4,h5,h6,h7⟩⟩,fun g2 hg2 j u=>?_⟩
  simp[Value.ownBlock] at hg2
  subst hg2
  rw[World.cell?_of_block (a:=⟨g,j,none⟩) hg']
  exact h3 g rfl j u
theorem OwnC.later{w w':World}{base:Nat}{e:TypeId}{v:Value}{L:List Fx}(h:OwnC w base e v L)(hb:Below w.heap.size w w'):OwnC w' base e v L:=h.kept fun k _ hk=>hb.block k hk
theorem OwnC.l_ {w w':World}{x0 x1 x2 x3}(h:OwnC w x0 x1 x2 x3)(b:Below w.heap.size w w'):Hid (OwnC w' x0 x1 x2 x3):=Lib.hid (h.later b)
theorem OwnC.base{w:World}{base:Nat}{e:TypeId}{v:Value}{L:List Fx}(h:OwnC w base e v L)(k:Nat)(hk:v.ownBlock=some k):base≤k:=by
 rcases h.1.2 with ⟨rfl,_⟩ | ⟨g,cap,cur,rfl,hbg,_⟩
 ·simp[Value.ownBlock] at hk
 ·simp[Value.ownBlock] at hk
  omega
theorem OwnC.slice{w:World}{base:Nat}{e:TypeId}{v:Value}{L:List Fx}(h:OwnC w base e v L)(hok:∀x∈L,x.ok w):∃(a:OA_) (cap:Nat),v=.slice a L.length cap∧Fxs w a L.length cap L:=by
 rcases h.1.2 with ⟨rfl,h0⟩ | ⟨g,cap,cur,rfl,hbg,hg⟩
 ·exact⟨none,0,by rw[h0],Fxs.own (by rw[h0];exact h0▸h.1) rfl hok⟩
 ·exact⟨_,cap,rfl,Fxs.own h.1 rfl hok⟩
theorem Fx.aside{w w':World}{v:Value}{x:Fx}(h:x.ok w)(hc:clean w v)(hg:w.grownBy w' v.ownBlock):x.ok w':=⟨h.1.aside hc hg,h.2.aside hc hg⟩
theorem rd_(w:World)(x:Fx)(e:TypeId):∀j u,(Fx.cells x)[j]? = some u→(w.alloc (.cells #[.bool x.s,.slice x.a x.n x.c,.slice x.b x.m x.d] e)).cell? ((⟨w.heap.size,0,none⟩:Addr).add j)=some u:=by
 intro j u hu
 rw[add_plain,Nat.zero_add]
 match j,hu with
 | 0,hu=>simpa [Fx.cells] using hu
 | 1,hu=>simpa [Fx.cells] using hu
 | 2,hu=>simpa [Fx.cells] using hu
 | j+3,hu=>simp[Fx.cells] at hu
theorem nw_(x:Fx):∀u∈Fx.cells x,u.oneCell'=true:=by
 intro u hu
 simp[Fx.cells] at hu
 rcases hu with rfl | rfl | rfl <;> rfl
def Fr (w:World) (v:Value) (q:Rat) (N:Nat):Prop:=
 ∃(neg:Bool) (a:OA_) (n cap:Nat) (la:List Nat) (b:OA_) (m cap':Nat) (lb:List Nat),v=frV neg a n cap b m cap'∧Wd w a n cap la∧Wd w b m cap' lb∧n≤N∧m≤N∧qval neg (val la) (val lb)=q
def Rt (w:World) (v:Value) (q:Rat) (N:Nat):Prop:=
 ∃(a:OA_) (n cap:Nat) (b:OA_) (m cap':Nat),v=frV (zneg q.num) a n cap b m cap'∧Wd w a n cap (dg q.num.natAbs)∧Wd w b m cap' (dg q.den)∧n≤N∧m≤N
theorem Fr.of{w:World}{neg:Bool}{a:Option Addr}{n cap:Nat}{la:List Nat}{b:Option Addr}{m cap':Nat}{lb:List Nat}{q:Rat}{N:Nat}(ha:Wd w a n cap la)(hb:Wd w b m cap' lb)(hn:n≤N)(hm:m≤N)(hq:qval neg (val la) (val lb)=q):Fr w (frV neg a n cap b m cap') q N:=
 ⟨neg,a,n,cap,la,b,m,cap',lb,rfl,ha,hb,hn,hm,hq⟩
theorem Rt.of{w:World}{a:Option Addr}{n cap:Nat}{b:Option Addr}{m cap':Nat}{q:Rat}{N:Nat}(ha:Wd w a n cap (dg q.num.natAbs))(hb:Wd w b m cap' (dg q.den))(hn:n≤N)(hm:m≤N):Rt w (frV (zneg q.num) a n cap b m cap') q N:=
 ⟨a,n,cap,b,m,cap',rfl,ha,hb,hn,hm⟩
theorem Rt.fr{w:World}{v:Value}{q:Rat}{N:Nat}(h:Rt w v q N):Fr w v q N:=by
 obtain⟨a,n,cap,b,m,cap',rfl,ha,hb,hn,hm⟩:=h
 exact Fr.of ha hb hn hm (fx_ q)
theorem Fr.right{w:World}{a:Option Addr}{n cap:Nat}{b:Option Addr}{m cap':Nat}{q:Rat}{N:Nat}(ha:Wd w a n cap (dg q.num.natAbs))(hb:Wd w b m cap' (dg q.den))(hn:n≤N)(hm:m≤N):Fr w (frV (zneg q.num) a n cap b m cap') q N:=(Rt.of ha hb hn hm).fr
def qlen (q:Rat):Nat:=max (dg q.num.natAbs).length (dg q.den).length
theorem bf_(q:Rat):(dg q.num.natAbs).length≤qlen q:=Nat.le_max_left _ _
theorem bd_(q:Rat):(dg q.den).length≤qlen q:=Nat.le_max_right _ _
theorem e2_{q:Rat}{N:Nat}(h1:(dg q.num.natAbs).length≤N)(h2:(dg q.den).length≤N):qlen q≤N:=Nat.max_le.2 ⟨h1,h2⟩
theorem Fr.len{w:World}{v:Value}{q:Rat}{N:Nat}(h:Fr w v q N):qlen q≤N+1:=by
 obtain⟨neg,a,n,cap,la,b,m,cap',lb,rfl,ha,hb,hn,hm,rfl⟩:=h
 by_cases hv:val lb=0
 ·rw[eb_ neg (.inl hv)]
  refine e2_ ?_ ?_
  ·show (dg (0:Nat)).length≤_
   rw[co_];exact Nat.zero_le _
  ·show (dg (1:Nat)).length≤_
   have:=ea_;omega
 ·obtain⟨h1,h2⟩:=e4_ neg (u:=val la) hv
  refine e2_ ?_ ?_
  ·rw[h1,d8_]
   exact Nat.le_trans (ax_ (Nat.div_le_self _ _)) (Nat.le_trans ha.trim_le (by omega))
  ·rw[h2]
   exact Nat.le_trans (ax_ (Nat.div_le_self _ _)) (Nat.le_trans hb.trim_le (by omega))
def fc_ (q:Rat) (v:Value) (w:World) (e:Ending) (w':World):Prop:=
 ∃(a:OA_) (n cap:Nat) (b:OA_) (m cap':Nat),e=.returned (.tuple #[frV (zneg q.num) a n cap b m cap',v])∧Wd w' a n cap (dg q.num.natAbs)∧Wd w' b m cap' (dg q.den)∧Below w.heap.size w w'
structure FracSaid:Prop where
 of:∀(z:Int) (w:World),gq_ z→Calls Tryz.prog 47 #[.int .i64 z] w (LstQ (z:Rat) w)
 ratio:∀(x y:Int) (w:World),gq_ x→gq_ y→Calls Tryz.prog 48 #[.int .i64 x,.int .i64 y] w (fc_ ((x:Rat) / (y:Rat)) (.bool (decide (y≠0))) w)
 sign:∀(v:Value) (q:Rat) (w:World),Fr w v q 2097152000→Calls Tryz.prog 44 #[v] w (bo_ (.int .i64 (sgn q.num)) w)
 same:∀(v u:Value) (p q:Rat) (w:World),Fr w v p 2097152000→Fr w u q 2097152000→Calls Tryz.prog 40 #[v,u] w (bo_ (.bool (decide (p=q))) w)
 add:∀(v u:Value) (p q:Rat) (w:World),Fr w v p 2097152000→Fr w u q 2097152000→Calls Tryz.prog 41 #[v,u] w (LstQ (p+q) w)
 sub:∀(v u:Value) (p q:Rat) (w:World),Fr w v p 2097152000→Fr w u q 2097152000→Calls Tryz.prog 42 #[v,u] w (LstQ (p - q) w)
 mul:∀(v u:Value) (p q:Rat) (w:World),Fr w v p 2097152000→Fr w u q 2097152000→Calls Tryz.prog 43 #[v,u] w (LstQ (p * q) w)
 quo:∀(v u:Value) (p q:Rat) (w:World),Fr w v p 2097152000→Fr w u q 2097152000→Calls Tryz.prog 63 #[v,u] w (fc_ (p / q) (.bool (decide (q≠0))) w)
theorem ev_:gq_ 0:=by unfold gq_;omega

theorem jc_(q:Rat):1≤qlen q:=by
 have h1:=bd_ q
 have h2:(dg q.den).length≠0:=fun e=>q.den_nz (dg_nil_iff.1 e)
 omega
theorem mx_(x y:Nat):(dg (x+y)).length≤max (dg x).length (dg y).length+1:=by
 apply bh_
 have h1:=fu_ (cx_ x)
 have h2:=fu_ (cx_ y)
 rw[a8_] at h1 h2
 have h3:4294967296 ^ (dg x).length≤4294967296 ^ max (dg x).length (dg y).length:=Nat.pow_le_pow_right (by decide) (Nat.le_max_left _ _)
 have h4:4294967296 ^ (dg y).length≤4294967296 ^ max (dg x).length (dg y).length:=Nat.pow_le_pow_right (by decide) (Nat.le_max_right _ _)
 rw[Nat.pow_succ]
 omega
theorem h9_(s:Int)(v:Nat):qlen (mkRat s v)≤max (dg s.natAbs).length (dg v).length+1:=by
 have h:=qval_len (zneg s) s.natAbs v
 unfold qval at h
 rw[j4_] at h
 exact e2_ (by omega) (by omega)
theorem gh_(p q:Rat):qlen (p+q)≤qlen p+qlen q+2:=by
 have h1:=h9_ (p.num * q.den+q.num * p.den) (p.den * q.den)
 rw[show mkRat (p.num * q.den+q.num * p.den) (p.den * q.den)=p+q from (Rat.add_def' p q).symm] at h1
 have h2:(dg (p.num * q.den+q.num * p.den).natAbs).length≤(dg (p.num.natAbs * q.den+q.num.natAbs * p.den)).length:=by
  refine ax_ (Nat.le_trans (Int.natAbs_add_le _ _) ?_)
  rw[Int.natAbs_mul,Int.natAbs_mul,Int.natAbs_natCast,Int.natAbs_natCast]
  exact Nat.le_refl _
 have h3:=mx_ (p.num.natAbs * q.den) (q.num.natAbs * p.den)
 have h4:=b4_ p.num.natAbs q.den
 have h5:=b4_ q.num.natAbs p.den
 have h6:=b4_ p.den q.den
 have h7:=bf_ p
 have h8:=bf_ q
 have h9:=bd_ p
 have h10:=bd_ q
 omega
theorem qlen_opp(q:Rat):qlen (-q)=qlen q:=by unfold qlen;rw[Rat.neg_num,Rat.neg_den,Int.natAbs_neg]
theorem qlen_sub(p q:Rat):qlen (p - q)≤qlen p+qlen q+2:=by
 rw[Rat.sub_eq_add_neg]
 have:=gh_ p (-q)
 rwa [qlen_opp] at this
theorem cu_(p q:Rat):qlen (p * q)≤qlen p+qlen q+1:=by
 have h1:=h9_ (p.num * q.num) (p.den * q.den)
 rw[show mkRat (p.num * q.num) (p.den * q.den)=p * q from (Rat.mul_def' p q).symm] at h1
 have h2:(dg (p.num * q.num).natAbs).length=(dg (p.num.natAbs * q.num.natAbs)).length:=by rw[Int.natAbs_mul]
 have h4:=b4_ p.num.natAbs q.num.natAbs
 have h6:=b4_ p.den q.den
 have h7:=bf_ p
 have h8:=bf_ q
 have h9:=bd_ p
 have h10:=bd_ q
 omega
theorem dq_:qlen 0=1:=by
 show max (dg (0:Nat)).length (dg (1:Nat)).length=1
 rw[co_,jh_ (by decide) (by decide)];rfl
theorem g9_(q:Rat):qlen q⁻¹≤qlen q:=by
 by_cases h:q=0
 ·subst h;rw[Rat.inv_zero];exact Nat.le_refl _
 ·refine e2_ ?_ ?_
  ·rw[(lv_ h).1];exact bd_ q
  ·rw[(lv_ h).2];exact bf_ q
theorem je_(p q:Rat):qlen (p / q)≤qlen p+qlen q+1:=by
 rw[Rat.div_def]
 have h1:=cu_ p q⁻¹
 have h2:=g9_ q
 omega
theorem ci_{z:Int}(h:gq_ z):qlen (z:Rat)≤2:=by
 unfold gq_ at h
 refine e2_ ?_ ?_
 ·rw[Rat.num_intCast]
  refine bh_ ?_
  have:(4294967296:Nat) ^ 2=18446744073709551616:=by decide
  rw[this];omega
 ·rw[Rat.den_intCast]
  have:=ea_;omega
def radd:List Rat→List Rat→List Rat
 | x :: l,y :: m=>(x+y) :: radd l m
 | _,_=>[]
def af_ (c:Rat) (l:LR_):List Rat:=l.map (fun x=>c * x)
def rdot:List Rat→List Rat→Rat
 | x :: l,y :: m=>x * y+rdot l m
 | _,_=>0
theorem c9_:∀(l m:LR_),l.length=m.length→(radd l m).length=l.length
 | [],[],_=>rfl
 | x :: l,y :: m,h=>by
   have:=c9_ l m (by simpa using h)
   simp only[radd,List.length_cons,this]
 | [],y :: m,h=>by simp at h
 | x :: l,[],h=>by simp at h
theorem a6_(c:Rat)(l:LR_):(af_ c l).length=l.length:=List.length_map _
def jx_:List UInt8→Nat
 | [] => 0
 | x :: r=>if x.toNat=44 then 0 else jx_ r+1
def e8_ (l:List UInt8):List (List UInt8):=
 if _h:jx_ l < l.length then l.take (jx_ l) :: e8_ (l.drop (jx_ l+1)) else [l]
termination_by l.length
decreasing_by rw[List.length_drop];omega
def io_:List (List UInt8)→Int
 | [] => 0
 | p :: r=>if o5_ p≠0 then o5_ p else io_ r
def h5_ (off:Nat):List (List UInt8)→Int
 | [] => 0
 | p :: r=>if o5_ p≠0 then (off:Int)+figPlace p else h5_ (off+p.length+1) r
def rowKind (l:List UInt8):Int:=if l=[] then 0 else io_ (e8_ l)
def qo_ (l:List UInt8):Int:=if l=[] then 0 else h5_ 0 (e8_ l)
def rowVals (l:List UInt8):List Rat:=if l=[]∨io_ (e8_ l)≠0 then [] else (e8_ l).map pp_
def rx (q:Rat) (a:OA_) (n c:Nat) (b:OA_) (m d:Nat):Fx:=⟨zneg q.num,a,n,c,dg q.num.natAbs,b,m,d,dg q.den⟩
theorem rx_q(q:Rat)(a:OA_)(n c:Nat)(b:OA_)(m d:Nat):(rx q a n c b m d).q=q:=fx_ q
def Fx.right (x:Fx):Prop:=x.s=zneg x.q.num∧x.la=dg x.q.num.natAbs∧x.lb=dg x.q.den
theorem di_(q:Rat)(a:OA_)(n c:Nat)(b:OA_)(m d:Nat):(rx q a n c b m d).right:=by
 unfold Fx.right
 rw[rx_q]
 exact⟨rfl,rfl,rfl⟩
def Rw (w:World) (a:OA_) (n cap:Nat) (qs:LR_):Prop:=∃L,Fxs w a n cap L∧L.map Fx.q=qs∧∀x∈L,x.right
theorem Rw.later{w w':World}{a:Option Addr}{n cap:Nat}{qs:List Rat}(h:Rw w a n cap qs)(hb:Below w.heap.size w w'):Rw w' a n cap qs:=by
 obtain⟨L,h1,h2,h3⟩:=h
 exact⟨L,h1.later hb,h2,h3⟩
theorem Rw.l_ {w w':World}{x0 x1 x2 x3}(h:Rw w x0 x1 x2 x3)(b:Below w.heap.size w w'):Hid (Rw w' x0 x1 x2 x3):=Lib.hid (h.later b)
theorem Rw.len{w:World}{a:Option Addr}{n cap:Nat}{qs:List Rat}(h:Rw w a n cap qs):qs.length=n:=by
 obtain⟨L,h1,h2,_⟩:=h
 rw[←h2,List.length_map];exact h1.len
def cw_ (qs:LR_) (w:World) (e:Ending) (w':World):Prop:=∃(a:OA_) (n cap:Nat),e=.returned (.slice a n cap)∧Rw w' a n cap qs∧Below w.heap.size w w'
def p0_ (qs:LR_) (v:Value) (w:World) (e:Ending) (w':World):Prop:=∃(a:OA_) (n cap:Nat),e=.returned (.tuple #[.slice a n cap,v])∧Rw w' a n cap qs∧Below w.heap.size w w'
def Row (w:World) (base:Nat) (e:TypeId) (v:Value) (qs:LR_):Prop:=∃L,OwnC w base e v L∧L.map Fx.q=qs∧∀x∈L,x.ok w∧x.right
theorem Row.nil(w:World)(base:Nat)(e:TypeId):Row w base e (.slice none 0 0) []:=⟨[],OwnC.nil _ _ _,rfl,fun x hx=>by simp at hx⟩
theorem Row.later{w w':World}{base:Nat}{e:TypeId}{v:Value}{qs:List Rat}(h:Row w base e v qs)(hb:Below w.heap.size w w'):Row w' base e v qs:=by
 obtain⟨L,h1,h2,h3⟩:=h
 exact⟨L,h1.later hb,h2,fun x hx=>⟨(h3 x hx).1.later hb,(h3 x hx).2⟩⟩
theorem Row.l_ {w w':World}{x0 x1 x2 x3}(h:Row w x0 x1 x2 x3)(b:Below w.heap.size w w'):Hid (Row w' x0 x1 x2 x3):=Lib.hid (h.later b)
theorem Row.out{w:World}{base:Nat}{e:TypeId}{v:Value}{qs:List Rat}(h:Row w base e v qs):∃(a:OA_) (cap:Nat),v=.slice a qs.length cap∧Rw w a qs.length cap qs:=by
 obtain⟨L,h1,h2,h3⟩:=h
 obtain⟨a,cap,rfl,hf⟩:=h1.slice (fun x hx=>(h3 x hx).1)
 have hl:L.length=qs.length:=by rw[←h2,List.length_map]
 rw[hl] at hf ⊢
 exact⟨a,cap,rfl,L,hf,h2,fun x hx=>(h3 x hx).2⟩
def Fxss (w:World) (a:OA_) (n cap:Nat) (ls:List (List Fx)):Prop:=
 ls.length=n∧n≤cap∧cap≤9223372036854775807∧(a=none→cap=0)∧(n=0∨∃b off,a=some ⟨b,off,none⟩∧∀j,j < n→∃a' n' c',w.cell? ⟨b,off+j,none⟩=some (.slice a' n' c')∧Fxs w a' n' c' (ls.getD j []))
theorem Fxss.len{w:World}{a:Option Addr}{n cap:Nat}{l:List (List Fx)}(h:Fxss w a n cap l):l.length=n:=h.1
theorem Fxss.bound{w:World}{a:Option Addr}{n cap:Nat}{l:List (List Fx)}(h:Fxss w a n cap l):n≤cap∧cap≤9223372036854775807:=⟨h.2.1,h.2.2.1⟩
theorem Fxss.at{w:World}{a:Option Addr}{n cap:Nat}{l:List (List Fx)}(h:Fxss w a n cap l){j:Nat}(hj:j < n):∃b off,a=some ⟨b,off,none⟩∧∃a' n' c',w.cell? ⟨b,off+j,none⟩=some (.slice a' n' c')∧Fxs w a' n' c' (l.getD j []):=by
 rcases h.2.2.2.2 with h0 | ⟨b,off,e,hc⟩
 ·omega
 ·exact⟨b,off,e,hc j hj⟩
theorem Fxss.later{w w':World}{a:Option Addr}{n cap:Nat}{l:List (List Fx)}(h:Fxss w a n cap l)(hb:Below w.heap.size w w'):Fxss w' a n cap l:=
 ⟨h.1,h.2.1,h.2.2.1,h.2.2.2.1,h.2.2.2.2.imp id fun ⟨b,off,e,hc⟩=>⟨b,off,e,fun j hj=>by
   obtain⟨a',n',c',h1,h2⟩:=hc j hj
   exact⟨a',n',c',cell_later hb h1,h2.later hb⟩⟩⟩
theorem Fxss.l_ {w w':World}{x0 x1 x2 x3}(h:Fxss w x0 x1 x2 x3)(b:Below w.heap.size w w'):Hid (Fxss w' x0 x1 x2 x3):=Lib.hid (h.later b)
theorem Fxss.ofNil(w:World):Fxss w none 0 0 []:=⟨rfl,Nat.le_refl _,by omega,fun _=>rfl,.inl rfl⟩
theorem Fxss.lit2(w:World)(e:TypeId){a1 a2:Option Addr}{n1 n2 c1 c2:Nat}{l1 l2:List Fx}(h1:Fxs w a1 n1 c1 l1)(h2:Fxs w a2 n2 c2 l2) :
 Fxss (w.alloc (.cells #[.slice a1 n1 c1,.slice a2 n2 c2] e)) (some ⟨w.heap.size,0,none⟩) 2 2 [l1,l2]:=by
 have hb:Below w.heap.size w (w.alloc (.cells #[.slice a1 n1 c1,.slice a2 n2 c2] e)):=(Below.refl _ _).alloc (Nat.le_refl _) _
 refine ⟨rfl,Nat.le_refl _,by omega,fun h=>(by cases h),.inr ⟨w.heap.size,0,rfl,fun j hj=>?_⟩⟩
 match j,hj with
 | 0,_=>exact⟨a1,n1,c1,by simp,h1.later hb⟩
 | 1,_=>exact⟨a2,n2,c2,by simp,h2.later hb⟩
theorem Fxss.lit3(w:World)(e:TypeId){a1 a2 a3:Option Addr}{n1 n2 n3 c1 c2 c3:Nat}{l1 l2 l3:List Fx}(h1:Fxs w a1 n1 c1 l1)(h2:Fxs w a2 n2 c2 l2)(h3:Fxs w a3 n3 c3 l3) :
 Fxss (w.alloc (.cells #[.slice a1 n1 c1,.slice a2 n2 c2,.slice a3 n3 c3] e)) (some ⟨w.heap.size,0,none⟩) 3 3 [l1,l2,l3]:=by
 have hb:Below w.heap.size w (w.alloc (.cells #[.slice a1 n1 c1,.slice a2 n2 c2,.slice a3 n3 c3] e)):=(Below.refl _ _).alloc (Nat.le_refl _) _
 refine ⟨rfl,Nat.le_refl _,by omega,fun h=>(by cases h),.inr ⟨w.heap.size,0,rfl,fun j hj=>?_⟩⟩
 match j,hj with
 | 0,_=>exact⟨a1,n1,c1,by simp,h1.later hb⟩
 | 1,_=>exact⟨a2,n2,c2,by simp,h2.later hb⟩
 | 2,_=>exact⟨a3,n3,c3,by simp,h3.later hb⟩
def thin (N:Nat) (L:List Fx):Prop:=∀x∈L,x.n≤N∧x.m≤N
theorem thin.mono{M N:Nat}{L:List Fx}(h:thin M L)(hn:M≤N):thin N L:=fun x hx=>⟨Nat.le_trans (h x hx).1 hn,Nat.le_trans (h x hx).2 hn⟩
theorem Fx.ok.fr{w:World}{x:Fx}{N:Nat}(h:x.ok w)(hn:x.n≤N)(hm:x.m≤N):Fr w (frV x.s x.a x.n x.c x.b x.m x.d) x.q N:=Fr.of h.1 h.2 hn hm rfl
def fqs (L:List Fx):List Rat:=L.map Fx.q
theorem aq_(L:List Fx):(fqs L).length=L.length:=List.length_map _
theorem fqs_at(L:List Fx)(j:Nat)(hj:j < L.length):(fqs L)[j]? = some (L.getD j Fx.zero).q:=by
 unfold fqs
 rw[List.getElem?_map,List.getD_eq_getElem?_getD,List.getElem?_eq_getElem hj];rfl
theorem Rw.thin{w:World}{a:Option Addr}{n cap:Nat}{qs:List Rat}(h:Rw w a n cap qs){N:Nat}(hq:∀q∈qs,qlen q≤N):∃L,Fxs w a n cap L∧fqs L=qs∧Go.Proofs.YtocebjbjnfammaaGreat.thin N L:=by
 obtain⟨L,h1,h2,h3⟩:=h
 refine ⟨L,h1,h2,fun x hx=>?_⟩
 obtain⟨h4,h5,h6⟩:=h3 x hx
 have h7:=hq x.q (h2▸List.mem_map.2 ⟨x,hx,rfl⟩)
 obtain⟨h8,h9⟩:=h1.ok hx
 have:=h8.len
 have:=h9.len
 have:=bf_ x.q
 have:=bd_ x.q
 rw[h5] at *
 rw[h6] at *
 constructor <;> omega
def ia_:List (List Rat)→List Rat
 | [] => []
 | l :: r=>r.foldl radd l
def even (LL:List (List Rat)):Prop:=∀x∈LL,∀y∈LL,x.length=y.length
instance (LL:List (List Rat)):Decidable (even LL):=by unfold even;infer_instance
def b8_:Nat→(Nat→Rat)→Rat
 | 0,_=>0
 | n+1,f=>b8_ n f+f n
theorem fl_:∀(n:Nat) (f:Nat→Rat),b8_ (n+1) f=f 0+b8_ n (fun k=>f (k+1))
 | 0,f=>by show (0:Rat)+f 0=f 0+0;grind
 | n+1,f=>by
   show b8_ (n+1) f+f (n+1)=f 0+(b8_ n (fun k=>f (k+1))+f (n+1))
   rw[fl_ n f];grind
theorem bi_:∀{n:Nat} {f g:Nat→Rat},(∀k,k < n→f k=g k)→b8_ n f=b8_ n g
 | 0,_,_,_=>rfl
 | n+1,f,g,h=>by
   show b8_ n f+f n=b8_ n g+g n
   rw[bi_ (fun k hk=>h k (by omega)),h n (by omega)]
theorem ef_:∀n:Nat,b8_ n (fun _=>0)=0
 | 0=>rfl
 | n+1=>by show b8_ n _+0=0;rw[ef_ n];grind
theorem kr_:∀(n:Nat) (f g:Nat→Rat),b8_ n (fun k=>f k+g k)=b8_ n f+b8_ n g
 | 0,_,_=>by show (0:Rat)=0+0;grind
 | n+1,f,g=>by
   show b8_ n (fun k=>f k+g k)+(f n+g n)=(b8_ n f+f n)+(b8_ n g+g n)
   rw[kr_ n f g];grind
theorem ko_(c:Rat):∀(n:Nat) (f:Nat→Rat),b8_ n (fun k=>c * f k)=c * b8_ n f
 | 0,_=>by show (0:Rat)=c * 0;grind
 | n+1,f=>by
   show b8_ n (fun k=>c * f k)+c * f n=c * (b8_ n f+f n)
   rw[ko_ c n f];grind
theorem qu_:∀{l m:List Rat},l.length=m.length→rdot l m=b8_ l.length (fun k=>l.getD k 0 * m.getD k 0)
 | [],[],_=>by rw[rdot];rfl;simp
 | x :: l,y :: m,h=>by
   have ih:=qu_ (l:=l) (m:=m) (by simpa using h)
   rw[rdot,ih,List.length_cons,fl_]
   rfl
 | [],_ :: _,h=>by simp at h
 | _ :: _,[],h=>by simp at h
theorem getD_ext{l m:List Rat}(hl:l.length=m.length)(h:∀k,k < l.length→l.getD k 0=m.getD k 0):l=m:=by
 refine List.ext_getElem hl fun k h1 h2=>?_
 have:=h k h1
 rwa [List.getD_eq_getElem?_getD,List.getD_eq_getElem?_getD,List.getElem?_eq_getElem h1,List.getElem?_eq_getElem h2] at this
end Go.Proofs.YtocebjbjnfammaaGreat
