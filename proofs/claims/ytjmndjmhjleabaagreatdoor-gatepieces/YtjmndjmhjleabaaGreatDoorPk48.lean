/- Small texts, one behind the other: GaA, SqH, StB, SpN, SqI, SqJ, StC, StD, StE, StF, FmD, FmE, FmF, FmG, FmH, FmI, FmJ. -/
import Derived.Test.YtjmndjmhjleabaaGreatDoorPk11
import Derived.Test.YtjmndjmhjleabaaGreatDoorPk18
import Derived.Test.YtjmndjmhjleabaaGreatDoorRqA
import Derived.Test.YtjmndjmhjleabaaGreatDoorPk40
import Derived.Test.YtjmndjmhjleabaaGreatDoorPk38
import Derived.Test.YtjmndjmhjleabaaGreatDoorPk5
import Derived.Test.YtjmndjmhjleabaaGreatDoorPk22
import Derived.Deep.AppendLies
import Derived.Deep.DeepCutAuto
import Derived.Test.YtjmndjmhjleabaaGreatDoorPk14
import Derived.Test.YtjmndjmhjleabaaGreatDoorPk36
import Derived.Test.YtjmndjmhjleabaaGreatDoorPk24
import Derived.Test.YtjmndjmhjleabaaGreatDoorPk17
import Derived.Laws.OwnMore
import Derived.Test.YtjmndjmhjleabaaGreatDoorPk23
import Derived.Deep.RegionHeld3
import Derived.Test.YtjmndjmhjleabaaGreatDoorFmC
import Derived.Test.YtjmndjmhjleabaaGreatDoorPk16
import Derived.Test.YtjmndjmhjleabaaGreatDoorPk30
import Derived.Deep.RegionLaw
import Derived.Test.YtjmndjmhjleabaaGreatDoorPk47
import Derived.Test.YtjmndjmhjleabaaGreatDoorPk37
set_option maxHeartbeats 4000000
set_option maxRecDepth 100000
open Go.Proofs.Tryz
namespace Go.Proofs.YtjmndjmhjleabaaGreatDoor
open Go.RowKit
structure KS where
 gp:Nat
 fo:Option Addr
 ak:Nat
 bo:Option Addr
 aj:Nat
def RG (c:Gt.Cn)(x:KS):List Value:=[.pointer (some ⟨x.gp,0,none⟩),.string ⟨c.hd.method.toArray⟩,.string ⟨c.hd.target.toArray⟩,.int .i64 (c.hd.minor:Int),.slice x.fo c.hd.fields.length x.ak,.int .i64 c.hd.length,.slice x.bo c.body.length x.aj]
def Jz (gs:Nat)(v:Nat->List Value):List Value:=.pointer (some ⟨gs,0,none⟩)::(v 0++(v 1++(v 2++v 3)))
def yg (c:Nat->Gt.Cn)(x:Nat->KS):Nat->List Value:=fun k=>RG (c k) (x k)
def upd {α:Type}(f:Nat->α)(k:Nat)(a:α):Nat->α:=fun i=>if i=k then a else f i
theorem aY {α:Type}(f:Nat->α)(k:Nat)(a:α):upd f k a k=a:=if_pos rfl
theorem upd_ne {α:Type}(f:Nat->α){k i:Nat}(a:α)(h:i≠k):upd f k a i=f i:=if_neg h
theorem upd_same {α:Type}(f:Nat->α)(k:Nat):upd f k (f k)=f:=by
 funext i;unfold upd;split
 . next h=>rw[h]
 . rfl
theorem jT {α:Type}(f:Nat->α)(k:Nat)(a b:α):upd (upd f k a) k b=upd f k b:=by
 funext i;unfold upd;split <;> rfl
theorem seven {l:List Value}(h:l.length=7):∃a0 a1 a2 a3 a4 a5 a6,l=[a0,a1,a2,a3,a4,a5,a6]:=by
 match l,h with
 | [a0,a1,a2,a3,a4,a5,a6],_=>exact⟨a0,a1,a2,a3,a4,a5,a6,rfl⟩
theorem UL (gs:Nat)(v:Nat->List Value)(hv:∀k,k<4->(v k).length=7){k:Nat}(hk:k<4){j:Nat}(hj:j<7):(Jz gs v).toArray[1+k*7+j]? = (v k)[j]?:=by
 obtain⟨p0,p1,p2,p3,p4,p5,p6,hp⟩:=seven (hv 0 (by omega));obtain⟨q0,q1,q2,q3,q4,q5,q6,hq⟩:=seven (hv 1 (by omega));obtain⟨r0,r1,r2,r3,r4,r5,r6,hr⟩:=seven (hv 2 (by omega));obtain⟨s0,s1,s2,s3,s4,s5,s6,hs⟩:=seven (hv 3 (by omega));unfold Jz;rw[hp,hq,hr,hs];obtain rfl | rfl | rfl | rfl:k=0∨k=1∨k=2∨k=3:=by omega
 . rw[hp];obtain rfl | rfl | rfl | rfl | rfl | rfl | rfl:j=0∨j=1∨j=2∨j=3∨j=4∨j=5∨j=6:=by omega
   all_goals rfl
 . rw[hq];obtain rfl | rfl | rfl | rfl | rfl | rfl | rfl:j=0∨j=1∨j=2∨j=3∨j=4∨j=5∨j=6:=by omega
   all_goals rfl
 . rw[hr];obtain rfl | rfl | rfl | rfl | rfl | rfl | rfl:j=0∨j=1∨j=2∨j=3∨j=4∨j=5∨j=6:=by omega
   all_goals rfl
 . rw[hs];obtain rfl | rfl | rfl | rfl | rfl | rfl | rfl:j=0∨j=1∨j=2∨j=3∨j=4∨j=5∨j=6:=by omega
   all_goals rfl
theorem RH (gs:Nat)(v:Nat->List Value)(hv:∀k,k<4->(v k).length=7){k:Nat}(hk:k<4){j:Nat}(hj:j<7)(u:Value):(Jz gs v).set (1+k*7+j) u=Jz gs (upd v k ((v k).set j u)):=by
 obtain⟨p0,p1,p2,p3,p4,p5,p6,hp⟩:=seven (hv 0 (by omega));obtain⟨q0,q1,q2,q3,q4,q5,q6,hq⟩:=seven (hv 1 (by omega));obtain⟨r0,r1,r2,r3,r4,r5,r6,hr⟩:=seven (hv 2 (by omega));obtain⟨s0,s1,s2,s3,s4,s5,s6,hs⟩:=seven (hv 3 (by omega));obtain rfl | rfl | rfl | rfl:k=0∨k=1∨k=2∨k=3:=by omega
 . show _=.pointer (some ⟨gs,0,none⟩)::((v 0).set j u++(v 1++(v 2++v 3)));unfold Jz;rw[hp,hq,hr,hs];obtain rfl | rfl | rfl | rfl | rfl | rfl | rfl:j=0∨j=1∨j=2∨j=3∨j=4∨j=5∨j=6:=by omega
   all_goals rfl
 . show _=.pointer (some ⟨gs,0,none⟩)::(v 0++((v 1).set j u++(v 2++v 3)));unfold Jz;rw[hp,hq,hr,hs];obtain rfl | rfl | rfl | rfl | rfl | rfl | rfl:j=0∨j=1∨j=2∨j=3∨j=4∨j=5∨j=6:=by omega
   all_goals rfl
 . show _=.pointer (some ⟨gs,0,none⟩)::(v 0++(v 1++((v 2).set j u++v 3)));unfold Jz;rw[hp,hq,hr,hs];obtain rfl | rfl | rfl | rfl | rfl | rfl | rfl:j=0∨j=1∨j=2∨j=3∨j=4∨j=5∨j=6:=by omega
   all_goals rfl
 . show _=.pointer (some ⟨gs,0,none⟩)::(v 0++(v 1++(v 2++(v 3).set j u)));unfold Jz;rw[hp,hq,hr,hs];obtain rfl | rfl | rfl | rfl | rfl | rfl | rfl:j=0∨j=1∨j=2∨j=3∨j=4∨j=5∨j=6:=by omega
   all_goals rfl
theorem wK (c:Nat->Gt.Cn)(x:Nat->KS)(k:Nat)(c':Gt.Cn)(x':KS):yg (upd c k c') (upd x k x')=upd (yg c x) k (RG c' x'):=by
 funext i;unfold yg upd;split <;> rfl
structure dS (w:World)(g gs:Nat)(v:Nat->List Value):Prop where
 row:w.heap[g]? = some (.cells (Jz gs v).toArray 80 (0,0))
 seven:∀k,k<4->(v k).length=7
theorem dS.store {w:World}{g gs:Nat}{v:Nat->List Value}(h:dS w g gs v):w.cell? ⟨g,0,none⟩=some (.pointer (some ⟨gs,0,none⟩)):=cell_of_row w g 0 _ _ _ h.row
theorem dS.at_ {w:World}{g gs:Nat}{v:Nat->List Value}(h:dS w g gs v){k:Nat}(hk:k<4){j:Nat}(hj:j<7){u:Value}(hu:(v k)[j]? = some u):w.cell? ⟨g,1+k*7+j,none⟩=some u:=by
 rw[cell_of_row w g _ _ _ _ h.row,UL gs v h.seven hk hj];exact hu
theorem dS.fz {w:World}{g gs:Nat}{v:Nat->List Value}(h:dS w g gs v)(j:Nat):w.frozen? ⟨g,j,none⟩=false:=frozen_of_row w g j _ _ h.row
theorem dS.lt {w:World}{g gs:Nat}{v:Nat->List Value}(h:dS w g gs v):g<w.heap.size:=(Array.getElem?_eq_some_iff.1 h.row).1
theorem dS.set {w:World}{g gs:Nat}{v:Nat->List Value}(h:dS w g gs v){k:Nat}(hk:k<4){j:Nat}(hj:j<7)(u:Value):dS (w.setCell ⟨g,1+k*7+j,none⟩ u) g gs (upd v k ((v k).set j u)):=by
 refine⟨?_,fun i hi=>?_⟩
 . rw[heap_setCell_same w g _ _ _ _ h.row];congr 2;rw[<-RH gs v h.seven hk hj];simp
 . unfold upd;split
   . rw[List.length_set];exact h.seven k hk
   . exact h.seven i hi
inductive yh
 | row
 | dn
 | rq (k:Nat)
 | fl (k:Nat)
 | bd (k:Nat)
 | ret
 | out
def zM (g gs:Nat)(s:Sr.Sh)(v:Nat->List Value)(n:Nat)(c:Nat->Gt.Cn)(x:Nat->KS)(z:Nat->Ob)(o:Ob):yh->Ob
 | .row=>fun w S=>dS w g gs v∧S g
 | .dn=>fun w S=>aN w S gs s
 | .rq k=>fun w S=>k<n->bZ w S (x k).gp (c k).rq
 | .fl k=>fun w S=>(k<n->iJ w S (x k).fo (x k).ak (c k).hd.fields.length (aB (Rq.iH (c k).hd.fields)))∧z k w S
 | .bd k=>fun w S=>k<n->aF w S 5 (x k).bo (x k).aj (c k).body
 | .ret=>o
 | .out=>fun _ _=>True
theorem iV {g gs:Nat}{s:Sr.Sh}{v:Nat->List Value}{n:Nat}{c:Nat->Gt.Cn}{x:Nat->KS}{z:Nat->Ob}{o:Ob}(Lz:∀k,fI (z k))(Lo:fI o):∀d,fI (zM g gs s v n c x z o d)
 | .row=>⟨fun h ht hs=>⟨⟨ht.row h.1.row (hs g h.2),h.1.seven⟩,h.2⟩,fun h hs=>⟨h.1,hs g h.1.lt h.2⟩⟩
 | .dn=>⟨fun h ht hs=>aN.turns h ht hs,fun h hs=>aN.mono h hs⟩
 | .rq _=>⟨fun h ht hs hk=>(h hk).turns ht hs,fun h hs hk=>(h hk).mono hs⟩
 | .fl k=>⟨fun h ht hs=>⟨fun hk=>(h.1 hk).turns ht hs,(Lz k).turns h.2 ht hs⟩,fun h hs=>⟨fun hk=>(h.1 hk).mono hs,(Lz k).mono h.2 hs⟩⟩
 | .bd _=>⟨fun h ht hs hk=>(h hk).turns ht hs,fun h hs hk=>(h hk).mono hs⟩
 | .ret=>Lo
 | .out=>fI.gV
def Wi:Nat->Ob:=fun _ _ _=>True
def Ej:Ob:=fun _ _=>True
def cZ (w:World)(S:Nat->Prop)(g gs:Nat)(s:Sr.Sh)(c:Nat->Gt.Cn):Prop:=∃κ x,Held (zM g gs s (yg c x) 4 c x Wi Ej) κ w∧∀k,κ k≠.out->S k
section
variable {w w':World} {S S':Nat->Prop} {g gs:Nat} {s:Sr.Sh} {c:Nat->Gt.Cn}
theorem cZ.turns (h:cZ w S g gs s c)(ht:Turns S' w w')(hs:∀k,S k->¬S' k):cZ w' S g gs s c:=by
 obtain⟨κ,x,hH,hS⟩:=h;refine⟨κ,x,fun d=>?_,hS⟩;by_cases hd:d=.out
 . subst hd;exact trivial
 . exact(iV (fun _=>fI.gV) fI.gV d).turns (hH d) ht (fun k e=>hs k (hS k (by rw[e];exact hd)))
theorem cZ.stay (h:cZ w S g gs s c)(hb:Below w.heap.size w w'):cZ w' S g gs s c:=h.turns (Turns.of_below (S:=fun _=>False) hb) (fun _ _ e=>e)
theorem cZ.mono (h:cZ w S g gs s c)(hs:∀k,k<w.heap.size->S k->S' k):cZ w S' g gs s c:=by
 obtain⟨κ,x,hH,hS⟩:=h;refine⟨bE κ w.heap.size .out,x,fun d=>?_,fun k hk=>?_⟩
 . by_cases hd:d=.out
   . subst hd;exact trivial
   . exact(iV (fun _=>fI.gV) fI.gV d).mono (hH d) (fun k hk e=>(bD hk).trans e)
 . rcases Nat.lt_or_ge k w.heap.size with hl | hl
   . rw[bD hl] at hk;exact hs k hl (hS k hk)
   . exact absurd (j4 hl) hk
theorem cZ.dn (h:cZ w S g gs s c):aN w S gs s:=by
 obtain⟨κ,x,hH,hS⟩:=h;exact aN.mono (hH .dn) (fun k _ e=>hS k (by rw[e];intro h;cases h))
end
theorem LB (a b:ByteArray):(a.toList==b.toList)=decide (a.data.toList=b.data.toList):=by
 rw[Lib.toList_data,Lib.toList_data,Bool.eq_iff_iff];simp
theorem iT.Di {w:World}{S:Nat->Prop}{tO tU tB g:Nat}{s:Sp.St}(h:iT w S tO tU tB g s)(v:Int):iT (w.setCell ⟨g,1,none⟩ (.int .i64 v)) S tO tU tB g ⟨s.l,v⟩∧Turns (fun k=>k=g) w (w.setCell ⟨g,1,none⟩ (.int .i64 v)):=by
 obtain⟨ao,cap,h1,h2,h3⟩:=h;have hT:Turns (fun k=>k=g) w (w.setCell ⟨g,1,none⟩ (.int .i64 v)):=Turns.setCell (fun k=>k=g) w _ _ rfl;exact⟨⟨ao,cap,heap_setCell_same w g 1 _ tO _ h1,h2,h3.turns hT (fun k e e2=>e.2 e2)⟩,hT⟩
theorem Bf (s:Sp.St)(S:Nat->Prop)(g:Nat)(w:World)(h:bq w S g s)(h0:0<=s.last)(h1:s.last<=1000000):
 Calls prog 158 #[.pointer (some ⟨g,0,none⟩)] w fun e w'=>e=.returned (.int .i64 (s.last+1))∧w'=w:=by
 obtain⟨ao,cap,c0,c1,f0,f1,hg,hS,hU⟩:=h.cells;clear hU hg hS c0 f0 f1 h;generalize s.last=t at *;go_enter func158,ntmps158;go_wp2;go_ret;exact⟨rfl,rfl⟩
structure Made (S:Nat->Prop)(tO:Nat)(w:World)(g:Nat)(r:Sp.St×Int×Nat)(e:Ending)(w':World):Prop where
 ret:e=.returned (.tuple #[.int .i64 r.2.1,.int .i64 (r.2.2:Int)])
 at_:iT w' (av S w) tO 101 5 g r.1
 turns:Turns S w w'
theorem Made.none_ {w w':World}{S:Nat->Prop}{tO g:Nat}{s:Sp.St}{c:Nat}(h:iT w S tO 101 5 g s)(hb:Below w.heap.size w w'){r:Sp.St×Int×Nat}(hr:r=(s,0,c)):Made S tO w g r (.returned (.tuple #[.int .i64 0,.int .i64 (c:Int)])) w':=by
 subst hr;exact⟨rfl,(h.stay hb).mono (fun k _ e=>Or.inl e),Turns.of_below hb⟩
theorem EU (s:Sp.St)(S:Nat->Prop)(g:Nat)(sz:Int)(m:ByteArray)(w:World)(h:bq w S g s)(ok:Sp.Ok s)(hl:s.last<=1000000)(hm:m.size<=1000000):
 Calls prog 161 #[.pointer (some ⟨g,0,none⟩),.int .i64 sz,.string m] w (Made S 104 w g (Sp.create s sz m)):=by
 have hN:=ok.few;have hl0:=ok.wU;obtain⟨ao,cap,c0,c1,f0,f1,hg,hS,hU⟩:=h.cells;have hcap:=hU.cap_;by_cases h1:sz < -1
 . have HR:Hid (Made S 104 w g (Sp.create s sz m) (.returned (.tuple #[.int .i64 0,.int .i64 (1:Nat)])) w):=Made.none_ h (Below.refl _ _) (by unfold Sp.create;rw[if_pos h1]);clear h ok hU hg c0 c1;go_enter func161,ntmps161;go_wp2;go_ret2;exact HR.o
 . have n1:decide (sz < -1)=false:=by rw[decide_eq_false_iff_not];exact h1
   by_cases h2:2000<sz
   . have HR:Hid (Made S 104 w g (Sp.create s sz m) (.returned (.tuple #[.int .i64 0,.int .i64 (4:Nat)])) w):=Made.none_ h (Below.refl _ _) (by unfold Sp.create;rw[if_neg h1,if_pos (Or.inl h2)]);have n2:decide (sz > 2000)=true:=by rw[decide_eq_true_eq];exact h2
     clear h ok hU hg c0 c1;go_enter func161,ntmps161;go_wp2;go_ret2;exact HR.o
   . have n2:decide (sz > 2000)=false:=by rw[decide_eq_false_iff_not];exact h2
     by_cases h3:100<m.size
     . have HR:Hid (Made S 104 w g (Sp.create s sz m) (.returned (.tuple #[.int .i64 0,.int .i64 (4:Nat)])) w):=Made.none_ h (Below.refl _ _) (by unfold Sp.create;rw[if_neg h1,if_pos (Or.inr h3)]);have n3:decide ((m.size:Int) > 100)=true:=by rw[decide_eq_true_eq];omega
       clear h ok hU hg c0 c1;go_enter func161,ntmps161;go_wp2;go_ret2;exact HR.o
     . have n3:decide ((m.size:Int) > 100)=false:=by rw[decide_eq_false_iff_not];omega
       have e2:¬(2000<sz∨100<m.size):=by omega
       have HV:=H9 (dW m w (by unfold maxLen;omega));cases hv:Ch.aP m.data.toList with
       | false =>
         rw[hv] at HV;have HR:Hid (Made S 104 w g (Sp.create s sz m) (.returned (.tuple #[.int .i64 0,.int .i64 (3:Nat)])) w):=Made.none_ h (Below.refl _ _) (by unfold Sp.create;rw[if_neg h1,if_neg e2,if_pos (Or.inl hv)]);clear h ok hU hg c0 c1 hv;go_enter func161,ntmps161;go_wp2_with (go_at_call 192;refine HV.o.mono ?_;rintro e w1 ⟨rfl,rfl⟩)
         go_ret2;exact HR.o
       | true =>
         rw[hv] at HV;have vT:=H9 (l7 m w (by omega));have hts:=LB ⟨(Lib.trimS m.data.toList Ch.ws).toArray⟩ m;obtain⟨T,hT⟩:∃T:ByteArray,T=⟨(Lib.trimS m.data.toList Ch.ws).toArray⟩:=⟨_,rfl⟩;have Wv:T.data.toList=Lib.trimS m.data.toList Ch.ws:=by rw[hT]
         rw[<-hT] at vT hts;rw[Wv] at hts;by_cases h4:Lib.trimS m.data.toList Ch.ws=m.data.toList
         . rw[decide_eq_true h4] at hts;have e3:¬(Ch.aP m.data.toList=false∨Lib.trimS m.data.toList Ch.ws≠m.data.toList):=by rw[hv];simpa using h4
           by_cases h5:12<=s.l.length
           . have HR:Hid (∀W,Below w.heap.size w W->W.cell? ⟨g,0,none⟩=some (.slice ao s.l.length cap)∧Made S 104 w g (Sp.create s sz m) (.returned (.tuple #[.int .i64 0,.int .i64 (8:Nat)])) W):=fun W hW=>⟨by rw[hW.cell (p:=⟨g,0,none⟩) h.lt];exact c0,Made.none_ h hW (by unfold Sp.create;rw[if_neg h1,if_neg e2,if_neg e3,if_pos h5])⟩;have n5:decide ((s.l.length:Int)≥12)=true:=by rw[decide_eq_true_eq];omega
             clear h ok hU hg c0 c1 hT Wv h4 hv e3;go_enter func161,ntmps161;go_wp2_with (first | (go_at_call 192;refine HV.o.mono ?_;rintro e w1 ⟨rfl,rfl⟩) | (go_at_call 193;refine vT.o.mono ?_;rintro e w1 ⟨rfl,hb⟩;obtain⟨d0,hd⟩:=HR.o w1 hb;have HD:=H9 hd;clear hd hb))
             go_ret2;exact HD.o
           . have n5:decide ((s.l.length:Int)≥12)=false:=by rw[decide_eq_false_iff_not];omega
             have Ni:Hid (Sp.create s sz m=(⟨s.l++[⟨s.last+1,sz,m,[],0⟩],s.last+1⟩,s.last+1,0)):=by unfold Sp.create;rw[if_neg h1,if_neg e2,if_neg e3,if_neg h5];exact rfl
             have HA:=H9 h;have Ht:Hid (∀W,Below w.heap.size w W->Calls prog 158 #[.pointer (some ⟨g,0,none⟩)] W fun e w'=>e=.returned (.int .i64 (s.last+1))∧w'=W):=fun W hW=>Bf s S g W (h.stay hW) hl0 hl;have sV:=H9 (fun W=>fG m W hm);have HC:Hid (∀W,Below w.heap.size w W->W.cell? ⟨g,0,none⟩=some (.slice ao s.l.length cap)∧W.cell? ⟨g,1,none⟩=some (.int .i64 s.last)∧W.frozen? ⟨g,1,none⟩=false):=fun W hW=>⟨by rw[hW.cell (p:=⟨g,0,none⟩) h.lt];exact c0,by rw[hW.cell (p:=⟨g,1,none⟩) h.lt];exact c1,by rw[hW.frozen (p:=⟨g,1,none⟩) h.lt];exact f1⟩;clear h ok hU hg c0 c1 f0 f1 hS hT Wv h4 hv e3;go_enter func161,ntmps161;go_wp2_with (first | (go_at_call 192;refine HV.o.mono ?_;rintro e w1 ⟨rfl,hw⟩;rw[hw];clear hw) | (go_at_call 193;refine vT.o.mono ?_;rintro e w1 ⟨rfl,hb⟩;obtain⟨d0,d1,d2⟩:=HC.o w1 hb;have HB:=H9 hb;clear hb) | (go_at_call 158;refine(Ht.o _ HB.o).mono ?_;rintro e wn ⟨rfl,hw⟩;rw[hw];clear hw))
             obtain⟨hs2,ht2⟩:=(HA.o.stay HB.o).Di (s.last+1);have dx:Turns S w (w1.setCell ⟨g,1,none⟩ (.int .i64 (s.last+1))):=(Turns.of_below HB.o).trans (ht2.mono (fun k e=>by subst e;exact HA.o.cells.choose_spec.choose_spec.2.2.2.2.2.1)) (fun _ e _=>e);generalize hw3:w1.setCell ⟨g,1,none⟩ (.int .i64 (s.last+1))=w3 at *;clear hw3 ht2 d0 d1 d2 HC Ht HB vT HV;obtain⟨fu,aI,c0,c1,f0,f1,hg3,FT,XC⟩:=hs2.cells;have BN:=H9 hs2;have hlt:=hs2.lt;have HT3:=H9 dx;have tZ:=H9 hg3;have HU3:=H9 XC
             clear hs2 dx hg3 XC HA;simp only at c0 c1;have XD:Hid (Calls prog 113 #[.string m] (w3.alloc (.cells #[.int .i64 0,.int .i64 0,.string ⟨#[]⟩,.slice none 0 0,.int .i64 0] 101)).drew fun e w4=>e=.returned (.string m)∧Below w3.heap.size w3 w4∧w4.heap[w3.heap.size]? = some (.cells #[.int .i64 0,.int .i64 0,.string ⟨#[]⟩,.slice none 0 0,.int .i64 0] 101 (0,0))):=(sV.o _).mono fun e w4 ⟨he,hb4⟩=>by
              refine⟨he,(((Below.refl _ w3).alloc (Nat.le_refl _) _).trans (aA _ _)).trans (hb4.mono (by show w3.heap.size<=(w3.alloc _).heap.size;rw[World.size_alloc];omega)),?_⟩;rw[hb4.block w3.heap.size (by show w3.heap.size<(w3.alloc _).heap.size;rw[World.size_alloc];omega)];exact heap_alloc_new w3 _
             have XE:Hid (Calls prog 113 #[.string m] w3.drew fun e w4=>e=.returned (.string m)∧Below w3.heap.size w3 w4):=(sV.o _).mono fun e w4 ⟨he,hb4⟩=>⟨he,(aA _ _).trans hb4⟩;have adr:¬w3.heap.size=g:=by omega
             have abN:¬g=w3.heap.size:=by omega
             clear sV;have Ww:Hid (∀w4,Below w3.heap.size w3 w4->w4.heap[w3.heap.size]? = some (.cells #[.int .i64 0,.int .i64 0,.string ⟨#[]⟩,.slice none 0 0,.int .i64 0] 101 (0,0))->Below w3.heap.size w3 (((((w4.setCell ⟨w3.heap.size,0,none⟩ (.int .i64 (s.last+1))).setCell ⟨w3.heap.size,1,none⟩ (.int .i64 sz)).setCell ⟨w3.heap.size,2,none⟩ (.string m)).setCell ⟨w3.heap.size,3,none⟩ (.slice none 0 0)).setCell ⟨w3.heap.size,4,none⟩ (.int .i64 0))∧(((((w4.setCell ⟨w3.heap.size,0,none⟩ (.int .i64 (s.last+1))).setCell ⟨w3.heap.size,1,none⟩ (.int .i64 sz)).setCell ⟨w3.heap.size,2,none⟩ (.string m)).setCell ⟨w3.heap.size,3,none⟩ (.slice none 0 0)).setCell ⟨w3.heap.size,4,none⟩ (.int .i64 0)).heap[w3.heap.size]? = some (.cells #[.int .i64 (s.last+1),.int .i64 sz,.string m,.slice none 0 0,.int .i64 0] 101 (0,0))):=fun w4 hb hr=>by
              refine⟨((((hb.setCell (Nat.le_refl _) _).setCell (Nat.le_refl _) _).setCell (Nat.le_refl _) _).setCell (Nat.le_refl _) _).setCell (Nat.le_refl _) _,?_⟩;exact heap_setCell_same _ _ 4 _ _ _ (heap_setCell_same _ _ 3 _ _ _ (heap_setCell_same _ _ 2 _ _ _ (heap_setCell_same _ _ 1 _ _ _ (heap_setCell_same _ _ 0 _ _ _ hr))))
             go_cut [8] (fun t wd=>∃nb,t=.pointer (some ⟨nb,0,none⟩)∧w3.heap.size<=nb∧Below w3.heap.size w3 wd∧wd.heap[nb]? = some (.cells #[.int .i64 (s.last+1),.int .i64 sz,.string m,.slice none 0 0,.int .i64 0] 101 (0,0)))
             case first =>
              go_region_held3 (fun w'=>w'.cell? ⟨g,1,none⟩=some (.int .i64 (s.last+1))) (go_keep) (first
               | (go_at_call 113;refine XD.o.mono ?_;rintro e w4 ⟨rfl,hb5,kW⟩;have c1':w4.cell? ⟨g,1,none⟩=some (.int .i64 (s.last+1)):=(hb5.cell (p:=⟨g,1,none⟩) hlt).trans c1;have z0:=cell_of_row w4 _ 0 _ _ _ kW;have z1:=cell_of_row w4 _ 1 _ _ _ kW;have z2:=cell_of_row w4 _ 2 _ _ _ kW;have z3:=cell_of_row w4 _ 3 _ _ _ kW;have z4:=cell_of_row w4 _ 4 _ _ _ kW;have y0:=frozen_of_row w4 _ 0 _ _ kW;have y1:=frozen_of_row w4 _ 1 _ _ kW;have y2:=frozen_of_row w4 _ 2 _ _ kW;have y3:=frozen_of_row w4 _ 3 _ _ kW;have y4:=frozen_of_row w4 _ 4 _ _ kW;simp at z0 z1 z2 z3 z4;have ig:=H9 hb5;have HR4:=H9 kW;clear hb5 kW)
               | (go_at_call 113;refine XE.o.mono ?_;rintro e w4 ⟨rfl,hb5⟩;have c1':w4.cell? ⟨g,1,none⟩=some (.int .i64 (s.last+1)):=(hb5.cell (p:=⟨g,1,none⟩) hlt).trans c1;have ads:¬w4.heap.size=g:=(by have:=hb5.size;omega);have abO:¬g=w4.heap.size:=(by have:=hb5.size;omega);have ig:=H9 hb5;clear hb5))
              all_goals go_wp2
              all_goals go_meet
              . exact⟨_,rfl,ig.o.size,ig.o.alloc ig.o.size _,heap_alloc_new w4 _⟩
              . exact⟨_,rfl,Nat.le_refl _,Ww.o w4 ig.o HR4.o⟩
             case rest =>
              obtain⟨nb,rfl,hnb,hb4,hr4⟩:=hcut;have hU4:=HU3.o.stay hb4;obtain⟨xs,hO,hP⟩:=hU4.push (.cells #[.int .i64 (s.last+1),.int .i64 sz,.string m,.slice none 0 0,.int .i64 0] 101);have hg4:wc.heap[g]? = some _:=(hb4.block g hlt).trans tZ.o;have bQ:=(Below.refl _ wc).alloc (Nat.le_refl _) (.cells #[.int .i64 (s.last+1),.int .i64 sz,.string m,.slice none 0 0,.int .i64 0] 101);have c0a:(wc.alloc (.cells #[.int .i64 (s.last+1),.int .i64 sz,.string m,.slice none 0 0,.int .i64 0] 101)).cell? ⟨g,0,none⟩=some (.slice fu s.l.length aI):=(bQ.cell (p:=⟨g,0,none⟩) (by show g<wc.heap.size;have:=hb4.size;omega)).trans (cell_of_row wc g 0 _ _ _ hg4);have c0b:wc.cell? ⟨g,0,none⟩=some (.slice fu s.l.length aI):=cell_of_row wc g 0 _ _ _ hg4;have z0:wc.cell? ⟨nb,0,none⟩=some (.int .i64 (s.last+1)):=cell_of_row wc nb 0 _ _ _ hr4;have z1:wc.cell? ⟨nb,1,none⟩=some (.int .i64 sz):=cell_of_row wc nb 1 _ _ _ hr4;have z2:wc.cell? ⟨nb,2,none⟩=some (.string m):=cell_of_row wc nb 2 _ _ _ hr4;have z3:wc.cell? ⟨nb,3,none⟩=some (.slice none 0 0):=cell_of_row wc nb 3 _ _ _ hr4;have z4:wc.cell? ⟨nb,4,none⟩=some (.int .i64 0):=cell_of_row wc nb 4 _ _ _ hr4;have Vd:=hb4.size;have hbl:∀k,au fu=some k->(S k∧k≠g)∧k<w3.heap.size:=fun k e=>by
               obtain⟨us,_,h2,h3,_⟩:=HU3.o;cases fu with
               | none=>cases e
               | some a=>injection e with e;subst e;exact⟨h3 a rfl,(h2.block a rfl).2⟩
              have adt:nb<wc.heap.size:=(Array.getElem?_eq_some_iff.1 hr4).1;have HK:Hid (∀w5,(wc.alloc (.cells #[.int .i64 (s.last+1),.int .i64 sz,.string m,.slice none 0 0,.int .i64 0] 101)).drew.grownBy w5 (Value.slice fu s.l.length aI).ownBlock->w5.heap[g]? = some (.cells #[.slice fu s.l.length aI,.int .i64 (s.last+1)] 104 (0,0))∧w5.heap[nb]? = some (.cells #[.int .i64 (s.last+1),.int .i64 sz,.string m,.slice none 0 0,.int .i64 0] 101 (0,0))):=fun w5 hG=>by
               rw[ay] at hG;refine⟨?_,?_⟩
               . rw[hG.block g (by show g<(wc.alloc _).heap.size;rw[World.size_alloc];omega) (fun e=>(hbl g e.symm).1.2 rfl)];exact(bQ.block g (by omega)).trans hg4
               . rw[hG.block nb (by show nb<(wc.alloc _).heap.size;rw[World.size_alloc];omega) (fun e=>by have:=(hbl nb e.symm).2;omega)];exact(bQ.block nb (by omega)).trans hr4
              have HO:=H9 (aC.stay hO (aA _ _));have Nj:Hid (∀j u,(nM ⟨s.last+1,sz,m,[],0⟩ ⟨none,0⟩)[j]? = some u->(wc.alloc (.cells #[.int .i64 (s.last+1),.int .i64 sz,.string m,.slice none 0 0,.int .i64 0] 101)).drew.cell? (Addr.add ⟨wc.heap.size,0,none⟩ j)=some u):=fun j u hu=>by
               rw[Addr.add_lit,Nat.zero_add];show(wc.alloc _).cell? _=_;rw[World.cell?_alloc_at _ _ _ _ rfl,List.getElem?_toArray];exact hu
              have HP:=H9 hP;have ig:=H9 hb4;have HBL:=H9 hbl;obtain⟨i0,hi0,hz0,hz1,hz2⟩:=info_parts Cq;have Hi:=H9 hi0;have gQ:=H9 hz0;have gK:=H9 hz1;have gT:=H9 hz2
              have HN:Hid (s.l.length+1<=maxLen∧(s.l.length+1)*64<=140737488355328):=⟨by unfold maxLen;omega,by omega⟩;have M5:¬nb=g:=by omega
              have adu:¬g=nb:=by omega
              clear hi0 hz0 hz1 hz2 hO hP hbl bQ hg4 hU4 hb4 hr4 Ww XD XE;go_wp2;go_region_law
               ((refine step_append_lies _ (by rfl) _ _ _ (by rfl) 0 101 i0 (.agg #[.int .i64 0,.int .i64 0,.string ⟨#[]⟩,.slice none 0 0,.int .i64 0]) 5 64 underlying40 Hi.o gQ.o gK.o gT.o (by rfl) (by decide) (.slice fu s.l.length aI) s.l.length _ (by rfl) HO.o ⟨wc.heap.size,0,none⟩ 1 1 (nM ⟨s.last+1,sz,m,[],0⟩ ⟨none,0⟩) (by rfl) (by rfl) Nj.o (Jw _ _) (by decide) HN.o.1 HN.o.2 (Nat.zero_le _) (wc.heap.size+1) (by simp) ?_;intro g5 cap5 w5 hown5 hgrow oM ZY;obtain⟨r5,r6⟩:=HK.o _ hgrow;have q0:w5.cell? ⟨g,0,none⟩=some (.slice fu s.l.length aI):=cell_of_row w5 g 0 _ _ _ r5;have q1:w5.frozen? ⟨g,0,none⟩=false:=frozen_of_row w5 g 0 _ _ r5;have q2:w5.cell? ⟨nb,0,none⟩=some (.int .i64 (s.last+1)):=cell_of_row w5 nb 0 _ _ _ r6;have Lf:=H9 r5;have Wx:=H9 hgrow;have zI:=H9 hown5;have Xk:=H9 oM;clear hgrow hown5 oM r5 r6 ZY))
              all_goals
               go_wp2;go_ret2;have hG:=Wx.o;have hat:=Xk.o;rw[ay] at hG hat;obtain⟨r1,r2⟩:=HP.o (some ⟨g5,0,none⟩) cap5 w5 ⟨s.last+1,sz,m,[],0⟩ ⟨none,0⟩ (fun _=>False) (aF.nil _ _ _) (fun _ _ e=>e) zI.o (dz (kF _ _) hG) (by
                rcases hat with e | e
                . exact Or.inl e.symm
                . exact Or.inr (by rw[World.size_alloc,e];rfl))
               have adv:=HT3.o.size;obtain⟨hL,hTL⟩:=iT.lay (S:=av S w) Lf.o (Or.inl FT) (n:=s.l.length+1) (r1.mono (fun k _ e=>by
                rcases e with e | e | e
                . exact⟨Or.inl e.1,e.2⟩
                . exact e.elim
                . exact⟨Or.inr (by omega),by omega⟩)) (by simp)
               refine⟨by rw[Ni.o];rfl,by rw[Ni.o];exact hL,?_⟩;exact((HT3.o.trans (Turns.of_below ig.o) (fun _ e _=>e)).trans (r2.mono (fun k e=>e.1)) (fun _ e _=>e)).trans (hTL.mono (fun k e=>by subst e;exact FT)) (fun _ e _=>e)
         . rw[decide_eq_false h4] at hts;have HR:Hid (∀W,Below w.heap.size w W->Made S 104 w g (Sp.create s sz m) (.returned (.tuple #[.int .i64 0,.int .i64 (3:Nat)])) W):=fun W hW=>Made.none_ h hW (by unfold Sp.create;rw[if_neg h1,if_neg e2,if_pos (Or.inr h4)]);clear h ok hU hg c0 c1 hT Wv h4 hv;go_enter func161,ntmps161;go_wp2_with (first | (go_at_call 192;refine HV.o.mono ?_;rintro e w1 ⟨rfl,rfl⟩) | (go_at_call 193;refine vT.o.mono ?_;rintro e w1 ⟨rfl,hb⟩;have HD:=H9 (HR.o w1 hb);clear hb))
           go_ret2;exact HD.o
theorem LC (s:Sp.St)(S:Nat->Prop)(g b1:Nat)(id:Int)(w:World)(h:bq w S g s)(ok:Sp.Ok s)(d1:w.cell? ⟨b1,0,none⟩=some (.int .i64 id)):
 Calls prog 174 #[.pointer (some ⟨g,0,none⟩),.pointer (some ⟨b1,0,none⟩)] w (Did S 104 w g (Sp.drop s id)):=by
 have HC:=H9 (LA s S g id w h ok);generalize Sp.drop s id=r at *;clear ok h;go_enter func174,ntmps174;go_wp2_with fail
 refine HC.o.mono ?_;intro e w2 hd;have HD:=H9 hd;obtain⟨rfl,_,_⟩:=hd;go_wp2;go_ret;exact HD.o
theorem LD (s:Sp.St)(S:Nat->Prop)(g b1 b2:Nat)(id:Int)(sz:Int)(w:World)(h:bq w S g s)(ok:Sp.Ok s)(d1:w.cell? ⟨b1,0,none⟩=some (.int .i64 id))(d2:w.cell? ⟨b2,0,none⟩=some (.int .i64 sz)):
 Calls prog 172 #[.pointer (some ⟨g,0,none⟩),.pointer (some ⟨b1,0,none⟩),.pointer (some ⟨b2,0,none⟩)] w (Did S 104 w g (Sp.declare s id sz)):=by
 have HC:=H9 (Co s S g id sz w h ok);generalize Sp.declare s id sz=r at *;clear ok h;go_enter func172,ntmps172;go_wp2_with fail
 refine HC.o.mono ?_;intro e w2 hd;have HD:=H9 hd;obtain⟨rfl,_,_⟩:=hd;go_wp2;go_ret;exact HD.o
theorem LG (s:Sp.St)(S:Nat->Prop)(g b1 b2 b3:Nat)(id:Int)(off:Int)(bo:Option Addr)(bn bc:Nat)(l:List UInt8)(w:World)(h:bq w S g s)(ok:Sp.Ok s)(d1:w.cell? ⟨b1,0,none⟩=some (.int .i64 id))(d2:w.cell? ⟨b2,0,none⟩=some (.int .i64 off))(d3:w.cell? ⟨b3,0,none⟩=some (.slice bo bn bc))(hb:aU w bo bc l)(hn:l.length=bn)(hN:bn<=1000000):
 Calls prog 170 #[.pointer (some ⟨g,0,none⟩),.pointer (some ⟨b1,0,none⟩),.pointer (some ⟨b2,0,none⟩),.pointer (some ⟨b3,0,none⟩)] w (Did S 104 w g (Sp.append s id off l)):=by
 have HC:=H9 (ES s S g id off bo bn bc l w h ok hb hn hN);generalize Sp.append s id off l=r at *;clear hN hn hb ok h;go_enter func170,ntmps170;go_wp2_with fail
 refine HC.o.mono ?_;intro e w2 hd;have HD:=H9 hd;obtain⟨rfl,_,_⟩:=hd;go_wp2;go_ret;exact HD.o
theorem LH (s:Sp.St)(S:Nat->Prop)(g b1 b2:Nat)(sz:Int)(m:ByteArray)(w:World)(h:bq w S g s)(ok:Sp.Ok s)(d1:w.cell? ⟨b1,0,none⟩=some (.int .i64 sz))(d2:w.cell? ⟨b2,0,none⟩=some (.string m))(hl:s.last<=1000000)(hm:m.size<=1000000):
 Calls prog 160 #[.pointer (some ⟨g,0,none⟩),.pointer (some ⟨b1,0,none⟩),.pointer (some ⟨b2,0,none⟩)] w (Did S 104 w g (Sr.made s sz m)):=by
 have HC:=H9 (EU s S g sz m w h ok hl hm);have HP:Hid (Sr.made s sz m=((Sp.create s sz m).1,(Sp.create s sz m).2.2)):=rfl;generalize Sp.create s sz m=q at *;obtain⟨q1,q2,q3⟩:=q;generalize Sr.made s sz m=r at *;clear hm hl ok h;go_enter func160,ntmps160;go_wp2_with fail
 refine HC.o.mono ?_;intro e w2 hd;have HD:Hid (Did S 104 w g r (.returned (.int .i64 (q3:Int))) w2):=by
  rw[HP.o];exact⟨rfl,hd.at_,hd.turns⟩
 obtain⟨rfl,_,_⟩:=hd;go_wp2;go_ret;exact HD.o
abbrev XF (B:Nat)(w:World)(g:Nat)(s:Sp.St):Prop:=bq w (fun k=>B<=k) g s
theorem Did.R8 {B:Nat}{w w':World}{g:Nat}{r:Sp.St×Nat}{e:Ending}(h:Did (fun k=>B<=k) 104 w g r e w')(hB:B<=w.heap.size):e=.returned (.int .i64 (r.2:Int))∧XF B w' g r.1∧Below B w w':=by
 refine⟨h.ret,h.at_.mono (fun k _ e=>?_),h.turns.below (fun k e=>e) hB⟩;rcases e with e | e
 . exact e
 . omega
theorem yS (i z t:Int)(m:ByteArray)(bo:Option Addr)(n aj:Nat)(bs:List UInt8)(w:World)(hB:aU w bo aj bs)(hn:bs.length=n)(hN:n<=1000000)(hm:m.size<=1000000):
 Calls prog 72 #[.agg #[.int .i64 i,.int .i64 z,.string m,.slice bo n aj,.int .i64 t]] w fun e w'=>∃ao cap,e=.returned (.agg #[.int .i64 i,.int .i64 z,.string m,.slice ao n cap,.int .i64 t])∧aF w' (fun k=>w.heap.size<=k) 5 ao cap bs∧Below w.heap.size w w':=by
 have R9:=H9 (fun W=>fG m W hm);have XH:Hid (∀W,Below w.heap.size w W->Calls prog 114 #[.slice bo n aj] W fun e w'=>∃ao cap,e=.returned (.slice ao n cap)∧aF w' (fun k=>W.heap.size<=k) 5 ao cap bs∧Below W.heap.size W w'):=fun W hW=>yR bs bo aj n W (hB.stay hW) hn (by omega);clear hB;go_enter func72,ntmps72;go_upto_region 1 with fail
 have h0:fA w (.cells #[.int .i64 i,.int .i64 z,.string m,.slice bo n aj,.int .i64 t] 101 (0,0)) (.cells #[.int .i64 0,.int .i64 0,.string ⟨#[]⟩,.slice none 0 0,.int .i64 0] 101 (0,0)) _:=fA.made w #[.int .i64 i,.int .i64 z,.string m,.slice bo n aj,.int .i64 t] #[.int .i64 0,.int .i64 0,.string ⟨#[]⟩,.slice none 0 0,.int .i64 0] 101 101;have sV:Hid (∀W,fA w (.cells #[.int .i64 i,.int .i64 z,.string m,.slice bo n aj,.int .i64 t] 101 (0,0)) (.cells #[.int .i64 0,.int .i64 0,.string ⟨#[]⟩,.slice none 0 0,.int .i64 0] 101 (0,0)) W->W.cell? ⟨w.heap.size,2,none⟩=some (.string m)∧W.cell? ⟨w.heap.size,3,none⟩=some (.slice bo n aj)∧W.frozen? ⟨w.heap.size,2,none⟩=false∧W.frozen? ⟨w.heap.size,3,none⟩=false):=fun W h=>⟨h.cell 2,h.cell 3,h.fz 2,h.fz 3⟩;obtain⟨c2,c3,f2,f3⟩:=sV.o _ h0;have hs0:w.heap.size+2<=((w.alloc (.cells #[.int .i64 i,.int .i64 z,.string m,.slice bo n aj,.int .i64 t] 101)).alloc (.cells #[.int .i64 0,.int .i64 0,.string ⟨#[]⟩,.slice none 0 0,.int .i64 0] 101)).heap.size:=by simp
 generalize ((w.alloc (.cells #[.int .i64 i,.int .i64 z,.string m,.slice bo n aj,.int .i64 t] 101)).alloc (.cells #[.int .i64 0,.int .i64 0,.string ⟨#[]⟩,.slice none 0 0,.int .i64 0] 101))=w1 at *;have HX:=H9 h0;have Sb:=H9 hs0;clear h0 hs0;go_cut [3] (fun _ wd=>∃ao cap,fA w (.cells #[.int .i64 i,.int .i64 z,.string m,.slice ao n cap,.int .i64 t] 101 (0,0)) (.cells #[.int .i64 0,.int .i64 0,.string ⟨#[]⟩,.slice none 0 0,.int .i64 0] 101 (0,0)) wd∧aF wd (fun k=>w.heap.size+2<=k) 5 ao cap bs)
 case first =>
  go_region_with (first
   | (go_at_call 113;refine(R9.o _).mono ?_;rintro e w2 ⟨rfl,hb2⟩;have hx2:=HX.o.stay ((aA _ _).trans hb2);obtain⟨d2,d3,g2,g3⟩:=sV.o _ hx2;have Pp:=H9 hx2;have HS2:Hid (w1.heap.size<=w2.heap.size):=hb2.size;clear hb2 hx2)
   | (go_at_call 114;refine(XH.o _ Pp.o.below).mono ?_;rintro e w3 ⟨ao,cap,rfl,hO,hb3⟩;have hx3:=Pp.o.stay hb3;obtain⟨e2,e3,k2,k3⟩:=sV.o _ hx3;have Ve:=H9 hx3;have HO:=H9 hO;clear hb3 hx3 hO))
  all_goals
   go_wp2;go_meet;have hx4:=Ve.o.same 2 (.string m) rfl;obtain⟨hx5,LJ⟩:=hx4.Z0 3 (.slice ao n cap);have ht4:Turns (fun k=>w.heap.size<=k∧k<w.heap.size+2) w3 (w3.setCell ⟨w.heap.size,2,none⟩ (.string m)):=Turns.setCell _ w3 _ _ ⟨Nat.le_refl _,by show w.heap.size<_;omega⟩;have hs0:=Sb.o;have hs2:=HS2.o;refine⟨ao,cap,hx5,((HO.o.to (S':=fun k=>w.heap.size+2<=k) (fun k e _ _=>by omega)).turns ht4 (fun k e h=>by omega)).turns LJ (fun k e h=>by omega)⟩
 case rest =>
  obtain⟨ao,cap,hx,hO⟩:=hcut;have HT:=H9 hx;have HO:=H9 hO;have d0:=hx.cell 0;have d1:=hx.cell 1;have d2:=hx.cell 2;have d3:=hx.cell 3;have d4:=hx.cell 4
  have g0:=hx.XG 0;have g1:=hx.XG 1;have g2:=hx.XG 2;have g3:=hx.XG 3;have g4:=hx.XG 4
  have e0:=hx.qy 0;have e1:=hx.qy 1;have e2:=hx.qy 2;have e3:=hx.qy 3;have e4:=hx.qy 4
  simp at d0 d1 d2 d3 d4 e0 e1 e2 e3 e4;clear hx hO c2 c3 f2 f3 HX Sb sV R9 XH;go_wp2;obtain⟨a1,t1⟩:=HT.o.Po 0 (.int .i64 i);obtain⟨a2,t2⟩:=a1.Po 1 (.int .i64 z);obtain⟨a3,t3⟩:=a2.Po 2 (.string m);obtain⟨a4,t4⟩:=a3.Po 3 (.slice ao n cap);obtain⟨a5,t5⟩:=a4.Po 4 (.int .i64 t);have hno:∀k,w.heap.size+2<=k->¬(w.heap.size<=k∧k<w.heap.size+2):=fun k e h=>by omega
  have vF:=((((HO.o.turns t1 hno).turns t2 hno).turns t3 hno).turns t4 hno).turns t5 hno;generalize (((((wc.setCell ⟨w.heap.size+1,0,none⟩ (Value.int .i64 i)).setCell ⟨w.heap.size+1,1,none⟩ (Value.int .i64 z)).setCell ⟨w.heap.size+1,2,none⟩ (Value.string m)).setCell ⟨w.heap.size+1,3,none⟩ (Value.slice ao n cap)).setCell ⟨w.heap.size+1,4,none⟩ (Value.int .i64 t))=w6 at a5 vF ⊢;have r0:w6.cell? ⟨w.heap.size+1,0,none⟩=some (.int .i64 i):=a5.qy 0;have r1:w6.cell? ⟨w.heap.size+1,1,none⟩=some (.int .i64 z):=a5.qy 1;have r2:w6.cell? ⟨w.heap.size+1,2,none⟩=some (.string m):=a5.qy 2;have r3:w6.cell? ⟨w.heap.size+1,3,none⟩=some (.slice ao n cap):=a5.qy 3;have r4:w6.cell? ⟨w.heap.size+1,4,none⟩=some (.int .i64 t):=a5.qy 4;refine bodyPost_ret (v:=.agg #[.int .i64 i,.int .i64 z,.string m,.slice ao n cap,.int .i64 t]) (by simp[results,results72,go_sem,r0,r1,r2,r3,r4]) rfl ⟨ao,cap,rfl,vF.mono (fun k _ e=>by omega),a5.below⟩
def yT (l:List Sp.Up):Prop:=l.length<=1000∧∀u∈l,u.note.size<=1000000∧u.bytes.length<=1000000
theorem Sp.Ok.small {s:Sp.St}(ok:Sp.Ok s):yT s.l:=⟨by have:=ok.few;omega,fun u hu=>⟨by have:=(ok.all u hu).note;omega,by have:=(ok.all u hu).long;omega⟩⟩
theorem sK (l:List Sp.Up)(ao:Option Addr)(cap n:Nat)(w:World)(hl:jH w ao cap l)(hcap:n<=cap)(hn:l.length=n)(hz:yT l):
 Calls prog 40 #[.slice ao n cap] w fun e w'=>∃aD,e=.returned (.slice aD n n)∧jR w' (fun k=>w.heap.size<=k) 101 5 aD n l∧Below w.heap.size w w':=by
 subst hn;have hN:=hz.1;obtain⟨i0,hi0,hz0,hz1,hz2⟩:=info_parts Cq;obtain⟨w1,hmk,jP,hG1⟩:=run_make_full (P:=prog) w 0 40 101 i0 (.agg #[.int .i64 0,.int .i64 0,.string ⟨#[]⟩,.slice none 0 0,.int .i64 0]) 5 underlying40 hi0 hz0 hz1 .i64 .i64 l.length (by rw[hz2];omega) (by unfold maxLen;omega) (Nat.zero_le _);rw[show(Value.agg #[.int .i64 0,.int .i64 0,.string ⟨#[]⟩,.slice none 0 0,.int .i64 0]).cells=#[.int .i64 0,.int .i64 0,.string ⟨#[]⟩,.slice none 0 0,.int .i64 0] from rfl,LK] at jP;have hb1:Below w.heap.size w w1:=⟨hG1.os,hG1.tape,hG1.output,hG1.size,fun k hk=>hG1.block k hk (by simp)⟩;have QV:jR w1 (fun k=>w.heap.size<=k) 101 5 (some ⟨w.heap.size,0,none⟩) l.length (List.replicate l.length JO):=jR.zeros jP (Nat.le_refl _);have H:=H9 hl;have HZ:=H9 hz;have HB1:=H9 hb1;have Z5:=H9 QV;clear hl hz hi0 hz0 hz1 hz2 jP hG1 hb1 QV;go_enter func40,ntmps40;go_wp2;go_loopw [11] (fun t wr=>∃k:Nat,k<=l.length∧t=.int .i64 k∧Below w.heap.size w wr∧jR wr (fun k=>w.heap.size<=k) 101 5 (some ⟨w.heap.size,0,none⟩) l.length (l.take k++List.replicate (l.length-k) JO)) (fun t _=>l.length-(intOf t).toNat)
 case atStart=>exact⟨0,Nat.zero_le _,rfl,HB1.o,Z5.o⟩
 case round =>
  obtain⟨k,hk,rfl,hB,hU⟩:=hrel;have HB:=H9 hB;have HU:=H9 hU;clear hB hU;by_cases hlt:k<l.length
  . obtain⟨bb,oo,q,rfl,hc0,hc1,hc2,hc3,hc4,hIB⟩:=(H.o.stay HB.o).at_ k hlt;have hlt':(k:Int)<l.length:=by omega
    have hz:=HZ.o.2 l[k] (List.getElem_mem hlt);have HT:Hid ((l.take k++List.replicate (l.length-k) JO).set k l[k]=l.take (k+1)++List.replicate (l.length-(k+1)) JO):=LM l k hlt;have hL:k<(l.take k++List.replicate (l.length-k) JO).length:=by rw[List.length_append,List.length_take,List.length_replicate];omega
    have bQ:=(Below.refl _ wr).alloc (Nat.le_refl _) (.cells #[.int .i64 l[k].id,.int .i64 l[k].size,.string l[k].note,.slice q.bo l[k].bytes.length q.aj,.int .i64 l[k].sent] 101);have HC:=H9 (yS l[k].id l[k].size l[k].sent l[k].note q.bo l[k].bytes.length q.aj l[k].bytes (wr.alloc (.cells #[.int .i64 l[k].id,.int .i64 l[k].size,.string l[k].note,.slice q.bo l[k].bytes.length q.aj,.int .i64 l[k].sent] 101)) (hIB.stay bQ) rfl hz.2 hz.1);have Z6:=HB.o.size;have HX:Hid (∀w3 aD cap',aF w3 (fun j=>(wr.alloc (.cells #[.int .i64 l[k].id,.int .i64 l[k].size,.string l[k].note,.slice q.bo l[k].bytes.length q.aj,.int .i64 l[k].sent] 101)).heap.size<=j) 5 aD cap' l[k].bytes->Below (wr.alloc (.cells #[.int .i64 l[k].id,.int .i64 l[k].size,.string l[k].note,.slice q.bo l[k].bytes.length q.aj,.int .i64 l[k].sent] 101)).heap.size (wr.alloc (.cells #[.int .i64 l[k].id,.int .i64 l[k].size,.string l[k].note,.slice q.bo l[k].bytes.length q.aj,.int .i64 l[k].sent] 101)) w3 ->
     (∀j,j<5->(∃v,w3.cell? ⟨w.heap.size,k*5+j,none⟩=some v)∧w3.frozen? ⟨w.heap.size,k*5+j,none⟩=false) ∧
     Below w.heap.size w (((((w3.setCell ⟨w.heap.size,k*5,none⟩ (.int .i64 l[k].id)).setCell ⟨w.heap.size,k*5+1,none⟩ (.int .i64 l[k].size)).setCell ⟨w.heap.size,k*5+2,none⟩ (.string l[k].note)).setCell ⟨w.heap.size,k*5+3,none⟩ (.slice aD l[k].bytes.length cap')).setCell ⟨w.heap.size,k*5+4,none⟩ (.int .i64 l[k].sent)) ∧
     jR (((((w3.setCell ⟨w.heap.size,k*5,none⟩ (.int .i64 l[k].id)).setCell ⟨w.heap.size,k*5+1,none⟩ (.int .i64 l[k].size)).setCell ⟨w.heap.size,k*5+2,none⟩ (.string l[k].note)).setCell ⟨w.heap.size,k*5+3,none⟩ (.slice aD l[k].bytes.length cap')).setCell ⟨w.heap.size,k*5+4,none⟩ (.int .i64 l[k].sent)) (fun k=>w.heap.size<=k) 101 5 (some ⟨w.heap.size,0,none⟩) l.length (l.take (k+1)++List.replicate (l.length-(k+1)) JO)):=fun w3 aD cap' hO hb3=>by
     have hb4:Below wr.heap.size wr w3:=then_ bQ hb3;have XC:=(HU.o.mono (S':=fun j=>w.heap.size<=j∧j<wr.heap.size) (fun j hj e=>⟨e,hj⟩)).stay hb4;obtain⟨g2,e2,_,_,hcf⟩:=XC.at_.row k hL;injection e2 with e2;injection e2 with e2;subst e2;obtain⟨hU5,nD⟩:=XC.Z4 (u:=l[k]) hL hO (fun j e h=>by rw[World.size_alloc] at e;omega) rfl;refine⟨hcf,(HB.o.trans (hb4.mono Z6)).trans (nD.below (fun j e=>by subst e;exact Nat.le_refl _) (by have:=hb4.size;omega)),?_⟩;rw[<-HT.o];refine hU5.mono (fun j _ e=>?_);rcases e with e | e
     . exact e.1
     . rw[World.size_alloc] at e;omega
    clear hIB bQ HT hL HU;generalize l[k]=p at *;go_wp2_with fail
    refine HC.o.mono ?_;rintro e w3 ⟨aD,cap',rfl,hO,hb3⟩;obtain⟨hcf,hx1,hx2⟩:=HX.o w3 aD cap' hO hb3;obtain⟨⟨v0,d0⟩,f0⟩:=hcf 0 (by decide);obtain⟨⟨v1,d1⟩,f1⟩:=hcf 1 (by decide);obtain⟨⟨v2,d2⟩,f2⟩:=hcf 2 (by decide);obtain⟨⟨v3,d3⟩,f3⟩:=hcf 3 (by decide);obtain⟨⟨v4,d4⟩,f4⟩:=hcf 4 (by decide);rw[Nat.add_zero] at d0 f0;have TM:=H9 hx1;have Pp:=H9 hx2
    clear hcf hx1 hx2 hO hb3 HX;go_wp2;go_roundw
    case rel=>exact⟨k+1,by omega,by go_num,TM.o,Pp.o⟩
    case measure=>simp[intOf];omega
  . obtain rfl:k=l.length:=by omega
    go_wp2;go_ret;refine⟨some ⟨w.heap.size,0,none⟩,rfl,?_,HB.o⟩;have:=HU.o;rw[List.take_length,Nat.sub_self,List.replicate_zero,List.append_nil] at this;exact this
theorem Bg (s:Sp.St)(S:Nat->Prop)(g:Nat)(w:World)(h:bq w S g s)(hz:yT s.l):
 Calls prog 18 #[.pointer (some ⟨g,0,none⟩)] w fun e w'=>∃aD,e=.returned (.slice aD s.l.length s.l.length)∧jR w' (fun k=>w.heap.size<=k) 101 5 aD s.l.length s.l∧Below w.heap.size w w':=by
 obtain⟨ao,cap,c0,c1,f0,f1,hg,hS,hU⟩:=h.cells;have HC:=H9 (sK s.l ao cap s.l.length w hU.rT hU.cap_ rfl hz);clear h hU hg hS c1 f0 f1 hz;generalize s.l=l at *;go_enter func18,ntmps18;go_wp2_with fail
 refine HC.o.mono ?_;rintro e w1 ⟨aD,rfl,QV,hb1⟩;have Z5:=H9 QV;have HB1:=H9 hb1
 clear QV hb1;go_wp2;go_ret;exact⟨aD,rfl,Z5.o,HB1.o⟩
theorem pW (s:Sp.St)(S:Nat->Prop)(g:Nat)(w:World)(h:bq w S g s)(hz:yT s.l):
 Calls prog 204 #[.pointer (some ⟨g,0,none⟩)] w fun e w'=>∃g',e=.returned (.pointer (some ⟨g',0,none⟩))∧bq w' (fun k=>w.heap.size<=k) g' s∧Below w.heap.size w w':=by
 have hlt:=h.lt;obtain⟨ao,cap,c0,c1,f0,f1,hg,hS,hU⟩:=h.cells;have HC:=H9 (sK s.l ao cap s.l.length w.drew (hU.rT.stay (aA _ _)) hU.cap_ rfl hz);clear h hU hg hS f0 f1 hz;have HE:Hid (∀w1 aD,jR w1 (fun k=>w.drew.heap.size<=k) 101 5 aD s.l.length s.l->Below w.drew.heap.size w.drew w1->w1.cell? ⟨g,0,none⟩=some (.slice ao s.l.length cap)∧w1.cell? ⟨g,1,none⟩=some (.int .i64 s.last)∧bq (w1.alloc (.cells #[.slice aD s.l.length s.l.length,.int .i64 s.last] 104)) (fun k=>w.heap.size<=k) w1.heap.size s∧Below w.heap.size w (w1.alloc (.cells #[.slice aD s.l.length s.l.length,.int .i64 s.last] 104))):=fun w1 aD QV hb1=>by
  have hb2:Below w.heap.size w w1:=(aA _ _).trans hb1;have bQ:=(Below.refl _ w1).alloc (Nat.le_refl _) (.cells #[.slice aD s.l.length s.l.length,.int .i64 s.last] 104);exact⟨(hb2.cell (p:=⟨g,0,none⟩) hlt).trans c0,(hb2.cell (p:=⟨g,1,none⟩) hlt).trans c1,⟨aD,s.l.length,heap_alloc_new w1 _,hb2.size,((QV.mono (S':=fun k=>w.heap.size<=k∧k<w1.heap.size) (fun k hk e=>⟨e,hk⟩)).stay bQ).mono (fun k _ e=>⟨e.1,by omega⟩)⟩,then_ hb2 bQ⟩
 generalize s.l.length=n at *;generalize hl:s.last=la at *;go_enter func204,ntmps204;go_wp2_with fail
 go_region_held3 (fun w'=>w'.cell? ⟨g,0,none⟩=some (.slice ao n cap)∧w'.cell? ⟨g,1,none⟩=some (.int .i64 la)) (go_keep) (first | (go_at_call 40;refine HC.o.mono ?_;rintro e w1 ⟨aD,rfl,QV,hb1⟩;obtain⟨d0,d1,hx,hy⟩:=HE.o w1 aD QV hb1;have HX:=H9 hx;have HY:=H9 hy;clear hx hy QV hb1))
 all_goals
  go_wp2;go_ret;exact⟨_,rfl,HX.o,HY.o⟩
theorem LQ (s:Sp.St)(S:Nat->Prop)(g:Nat)(id:Int)(w:World)(h:bq w S g s)(ok:Sp.Ok s)(hp:Sp.place s.l id=none):
 Calls prog 125 #[.pointer (some ⟨g,0,none⟩),.int .i64 id] w fun e w'=>e=.returned (.tuple #[.agg #[.int .i64 0,.int .i64 0,.string ⟨#[]⟩,.slice none 0 0,.int .i64 0],.bool false])∧Below w.heap.size w w':=by
 have bQ:=(Below.refl _ w).alloc (Nat.le_refl _) (.cells #[.int .i64 0,.int .i64 0,.string ⟨#[]⟩,.slice none 0 0,.int .i64 0] 101);have HI:=H9 (l8 s S g id _ (h.stay bQ) (by have:=ok.few;omega));rw[Sp.q8 hp] at HI;have HB:=H9 bQ;clear h ok hp bQ;go_enter func125,ntmps125;go_wp2_with fail
 refine HI.o.mono ?_;rintro e w1 ⟨rfl,hb⟩;have hb2:=then_ HB.o hb;have hr:w1.heap[w.heap.size]? = some (.cells #[.int .i64 0,.int .i64 0,.string ⟨#[]⟩,.slice none 0 0,.int .i64 0] 101 (0,0)):=(hb.block w.heap.size (by simp)).trans (heap_alloc_new w _);have z0:=cell_of_row w1 _ 0 _ _ _ hr;have z1:=cell_of_row w1 _ 1 _ _ _ hr;have z2:=cell_of_row w1 _ 2 _ _ _ hr;have z3:=cell_of_row w1 _ 3 _ _ _ hr;have z4:=cell_of_row w1 _ 4 _ _ _ hr
 have y0:=frozen_of_row w1 _ 0 _ _ hr;have y1:=frozen_of_row w1 _ 1 _ _ hr;have y2:=frozen_of_row w1 _ 2 _ _ hr;have y3:=frozen_of_row w1 _ 3 _ _ hr;have y4:=frozen_of_row w1 _ 4 _ _ hr
 simp at z0 z1 z2 z3 z4;have HB2:=H9 hb2;have HR:=H9 hr
 clear hb hb2 hr;go_wp2;have hb6:=((((HB2.o.setCell (p:=⟨w.heap.size,0,none⟩) (Nat.le_refl _) (.int .i64 0)).setCell (p:=⟨w.heap.size,1,none⟩) (Nat.le_refl _) (.int .i64 0)).setCell (p:=⟨w.heap.size,2,none⟩) (Nat.le_refl _) (.string ⟨#[]⟩)).setCell (p:=⟨w.heap.size,3,none⟩) (Nat.le_refl _) (.slice none 0 0)).setCell (p:=⟨w.heap.size,4,none⟩) (Nat.le_refl _) (.int .i64 0);have yU:=heap_setCell_same _ _ 4 _ _ (.int .i64 0) (heap_setCell_same _ _ 3 _ _ (.slice none 0 0) (heap_setCell_same _ _ 2 _ _ (.string ⟨#[]⟩) (heap_setCell_same _ _ 1 _ _ (.int .i64 0) (heap_setCell_same _ _ 0 _ _ (.int .i64 0) HR.o))));generalize (((((w1.setCell ⟨w.heap.size,0,none⟩ (Value.int .i64 0)).setCell ⟨w.heap.size,1,none⟩ (Value.int .i64 0)).setCell ⟨w.heap.size,2,none⟩ (Value.string ⟨#[]⟩)).setCell ⟨w.heap.size,3,none⟩ (Value.slice none 0 0)).setCell ⟨w.heap.size,4,none⟩ (Value.int .i64 0))=w6 at hb6 yU ⊢;have r0:w6.cell? ⟨w.heap.size,0,none⟩=some (.int .i64 0):=cell_of_row w6 _ 0 _ _ _ yU;have r1:w6.cell? ⟨w.heap.size,1,none⟩=some (.int .i64 0):=cell_of_row w6 _ 1 _ _ _ yU;have r2:w6.cell? ⟨w.heap.size,2,none⟩=some (.string ⟨#[]⟩):=cell_of_row w6 _ 2 _ _ _ yU;have r3:w6.cell? ⟨w.heap.size,3,none⟩=some (.slice none 0 0):=cell_of_row w6 _ 3 _ _ _ yU;have r4:w6.cell? ⟨w.heap.size,4,none⟩=some (.int .i64 0):=cell_of_row w6 _ 4 _ _ _ yU;refine bodyPost_ret (v:=.tuple #[.agg #[.int .i64 0,.int .i64 0,.string ⟨#[]⟩,.slice none 0 0,.int .i64 0],.bool false]) (by simp[results,results125,go_sem,r0,r1,r2,r3,r4]) rfl ⟨rfl,hb6⟩
theorem LU (s:Sp.St)(S:Nat->Prop)(g:Nat)(id:Int)(i:Nat)(w:World)(h:bq w S g s)(ok:Sp.Ok s)(hp:Sp.place s.l id=some i)(hi:i<s.l.length):
 Calls prog 125 #[.pointer (some ⟨g,0,none⟩),.int .i64 id] w fun e w'=>∃ao cap,e=.returned (.tuple #[.agg #[.int .i64 s.l[i].id,.int .i64 s.l[i].size,.string s.l[i].note,.slice ao s.l[i].bytes.length cap,.int .i64 s.l[i].sent],.bool true])∧aU w' ao cap s.l[i].bytes∧Below w.heap.size w w':=by
 have bQ:=(Below.refl _ w).alloc (Nat.le_refl _) (.cells #[.int .i64 0,.int .i64 0,.string ⟨#[]⟩,.slice none 0 0,.int .i64 0] 101);have HI:=H9 (l8 s S g id _ (h.stay bQ) (by have:=ok.few;omega));rw[Sp.q9 hp] at HI;have HB:=H9 bQ;have HA:=H9 h;have hk:=ok.all _ (List.getElem_mem hi);have k1:=hk.long;have k2:=hk.note;have iw:=ok.few
 have hi':(i:Int)<s.l.length:=by omega
 obtain⟨u,hu⟩:∃u,s.l[i]=u:=⟨_,rfl⟩;rw[hu] at k1 k2 ⊢;have HUE:=H9 hu;clear h ok hp bQ hk hu;go_enter func125,ntmps125;go_wp2_with fail
 refine HI.o.mono ?_;rintro e w1 ⟨rfl,hb⟩;have hb2:=then_ HB.o hb;obtain⟨gu,hgu⟩:=iU.of (HA.o.stay hb2) hi;obtain⟨q,h0,h1,h2,h3,h4,hf,hIB⟩:=iU.up (HA.o.stay hb2) hgu hi;rw[HUE.o] at h0 h1 h2 h3 h4 hIB;obtain⟨cap,hcap,hc⟩:=hgu;have HC:=H9 (yS u.id u.size u.sent u.note q.bo u.bytes.length q.aj u.bytes w1 hIB rfl (by omega) (by omega));have hr:w1.heap[w.heap.size]? = some (.cells #[.int .i64 0,.int .i64 0,.string ⟨#[]⟩,.slice none 0 0,.int .i64 0] 101 (0,0)):=(hb.block w.heap.size (by simp)).trans (heap_alloc_new w _);have hlw:w.heap.size<w1.heap.size:=(Array.getElem?_eq_some_iff.1 hr).1;have HB2:=H9 hb2;have HR:=H9 hr
 clear hb hb2 hr hf hIB HA HI HB;go_wp2_with fail
 refine HC.o.mono ?_;rintro e w3 ⟨aD,cap',rfl,hO,hb3⟩;have hb4:=then_ HB2.o hb3;have hr:=(hb3.block w.heap.size hlw).trans HR.o;have z0:=cell_of_row w3 _ 0 _ _ _ hr;have z1:=cell_of_row w3 _ 1 _ _ _ hr;have z2:=cell_of_row w3 _ 2 _ _ _ hr;have z3:=cell_of_row w3 _ 3 _ _ _ hr;have z4:=cell_of_row w3 _ 4 _ _ _ hr
 have y0:=frozen_of_row w3 _ 0 _ _ hr;have y1:=frozen_of_row w3 _ 1 _ _ hr;have y2:=frozen_of_row w3 _ 2 _ _ hr;have y3:=frozen_of_row w3 _ 3 _ _ hr;have y4:=frozen_of_row w3 _ 4 _ _ hr
 simp at z0 z1 z2 z3 z4;have ig:=H9 hb4;have HR4:=H9 hr;have HO:=H9 hO
 clear hb4 hr hb3 hO HR HC;go_wp2;have hb6:=((((ig.o.setCell (p:=⟨w.heap.size,0,none⟩) (Nat.le_refl _) (.int .i64 u.id)).setCell (p:=⟨w.heap.size,1,none⟩) (Nat.le_refl _) (.int .i64 u.size)).setCell (p:=⟨w.heap.size,2,none⟩) (Nat.le_refl _) (.string u.note)).setCell (p:=⟨w.heap.size,3,none⟩) (Nat.le_refl _) (.slice aD u.bytes.length cap')).setCell (p:=⟨w.heap.size,4,none⟩) (Nat.le_refl _) (.int .i64 u.sent);have yU:=heap_setCell_same _ _ 4 _ _ (.int .i64 u.sent) (heap_setCell_same _ _ 3 _ _ (.slice aD u.bytes.length cap') (heap_setCell_same _ _ 2 _ _ (.string u.note) (heap_setCell_same _ _ 1 _ _ (.int .i64 u.size) (heap_setCell_same _ _ 0 _ _ (.int .i64 u.id) HR4.o))));have vF:=(HO.o.turns (gB w.heap.size [.int .i64 u.id,.int .i64 u.size,.string u.note,.slice aD u.bytes.length cap',.int .i64 u.sent] 0 w3) (fun k e h=>by subst h;omega)).qc;change aU (((((w3.setCell ⟨w.heap.size,0,none⟩ (Value.int .i64 u.id)).setCell ⟨w.heap.size,1,none⟩ (Value.int .i64 u.size)).setCell ⟨w.heap.size,2,none⟩ (Value.string u.note)).setCell ⟨w.heap.size,3,none⟩ (Value.slice aD u.bytes.length cap')).setCell ⟨w.heap.size,4,none⟩ (Value.int .i64 u.sent)) _ _ _ at vF;generalize (((((w3.setCell ⟨w.heap.size,0,none⟩ (Value.int .i64 u.id)).setCell ⟨w.heap.size,1,none⟩ (Value.int .i64 u.size)).setCell ⟨w.heap.size,2,none⟩ (Value.string u.note)).setCell ⟨w.heap.size,3,none⟩ (Value.slice aD u.bytes.length cap')).setCell ⟨w.heap.size,4,none⟩ (Value.int .i64 u.sent))=w6 at hb6 yU vF ⊢;have r0:w6.cell? ⟨w.heap.size,0,none⟩=some (.int .i64 u.id):=cell_of_row w6 _ 0 _ _ _ yU;have r1:w6.cell? ⟨w.heap.size,1,none⟩=some (.int .i64 u.size):=cell_of_row w6 _ 1 _ _ _ yU;have r2:w6.cell? ⟨w.heap.size,2,none⟩=some (.string u.note):=cell_of_row w6 _ 2 _ _ _ yU;have r3:w6.cell? ⟨w.heap.size,3,none⟩=some (.slice aD u.bytes.length cap'):=cell_of_row w6 _ 3 _ _ _ yU;have r4:w6.cell? ⟨w.heap.size,4,none⟩=some (.int .i64 u.sent):=cell_of_row w6 _ 4 _ _ _ yU;refine bodyPost_ret (v:=.tuple #[.agg #[.int .i64 u.id,.int .i64 u.size,.string u.note,.slice aD u.bytes.length cap',.int .i64 u.sent],.bool true]) (by simp[results,results125,go_sem,r0,r1,r2,r3,r4]) rfl ⟨aD,cap',rfl,vF,hb6⟩
theorem pY {x:Jn.E}(h:Jn.fits x=false):kX x=([],1):=by unfold kX;rw[if_neg (by simp[h])]
theorem nG {x:Jn.E}(h:Jn.fits x=true):kX x=(Jn.enc x,0):=by unfold kX;rw[if_pos h]
theorem sM {s:Sp.St}(ok:Sp.Ok s):yT s.l:=Sp.Ok.small ok
theorem Pq (s:Sr.Sh)(S:Nat->Prop)(g b1:Nat)(x:Jn.E)(ta:Option Addr)(tn tc:Nat)(r:Sp.St×Nat)(w:World)(h:aN w S g s)(ok:Sr.Ok s)(hT:aU w ta tc x.text)(hn:x.text.length=tn)
 (hF:∀W g',Below w.heap.size w W->w.heap.size+1<=W.heap.size->bq W (fun k=>w.heap.size+1<=k) g' s.h->Calls prog 174 #[.pointer (some ⟨g',0,none⟩),.pointer (some ⟨b1,0,none⟩)] W (Did (fun k=>w.heap.size+1<=k) 104 W g' r)) :
 Calls prog 159 #[.pointer (some ⟨g,0,none⟩),.agg #[.int .i64 x.kind,.int .i64 x.id,.int .i64 x.n,.slice ta tn tc],.func (.func 174) #[] #[.pointer (some ⟨b1,0,none⟩)]] w (bL S w g (Sr.write s r x)):=by
 obtain⟨gs,gl,ao,ca,P,hI⟩:=h;have bQ:=(Below.refl _ w).alloc (Nat.le_refl _) (.cells #[.int .i64 x.kind,.int .i64 x.id,.int .i64 x.n,.slice ta tn tc] 217);have hI1:=hI.stay bQ;obtain⟨⟨c0,c1⟩,_⟩:=jO hI1.row;have HC:=H9 (pW s.h P gs _ hI1.ow (sM ok.h));have HI:=H9 hI;have jr:=H9 bQ;have HF:=H9 hF;have HT:=H9 hT
 have hlt:=hI.lt;clear hI hI1 bQ hF hT;go_enter func159,ntmps159;go_wp2_with fail
 refine HC.o.mono ?_;rintro e w2 ⟨g',rfl,hS2,hb2⟩;have hB2:Below w.heap.size w w2:=then_ jr.o hb2;have HD:=H9 (HF.o w2 g' hB2 (by have:=hb2.size;simpa using this) (hS2.mono (fun k _ e=>by simpa using e)));have HB2:=H9 hB2;have Hb2:=H9 hb2
 clear hS2 hb2 hB2 HC HF c0 c1;go_wp2_with fail
 refine HD.o.mono ?_;intro e w3 hd;have hsz2:=Hb2.o.size;have hs3:w.heap.size+1<=w2.heap.size:=by simpa using hsz2
 obtain⟨he,FT,hb3⟩:=hd.R8 hs3;have hbx:Below (w.heap.size+1) (w.alloc (.cells #[.int .i64 x.kind,.int .i64 x.id,.int .i64 x.n,.slice ta tn tc] 217)) w3:=(Hb2.o.mono (by simp)).trans hb3;have hB3:Below w.heap.size w w3:=HB2.o.trans (hb3.mono (Nat.le_succ _));obtain⟨x0,x1,x2,x3⟩:=yV (Nat.lt_succ_self _) hbx;have HB3:=H9 hB3;have BM:=H9 FT
 clear hd FT hb3 hbx hB3 hsz2 hs3 HD HB2 Hb2;subst he;by_cases hc:r.2=0
 . have HX:=H9 (nE x ta tn tc w3 (HT.o.stay HB3.o) hn);rw[hc];cases hf:Jn.fits x with
   | false =>
     have HR:Hid (∀W,Below w.heap.size w W->bL S w g (Sr.write s r x) (.returned (.int .i64 (1:Nat))) W):=fun W hb=>bL.none_ ⟨gs,gl,ao,ca,P,HI.o⟩ hb (Sr.o9 hc hf);unfold jY at HX;rw[pY hf] at HX;clear hc hf HI;go_wp2_with fail
     refine HX.o.mono ?_;rintro e w4 ⟨pX,Bl,rfl,_,hb4⟩;have ig:=H9 (then_ HB3.o hb4);clear hb4;go_wp2;go_ret;exact HR.o _ ig.o
   | true =>
     unfold jY at HX;rw[nG hf] at HX;have hlx:(Jn.enc x).length<=1048600:=by have:=Jn.wG hf;have:=Jn.o8 hf;omega
     by_cases hl:100000<s.log.length+(Jn.enc x).length
     . have HR:Hid (∀W,Below w.heap.size w W->bL S w g (Sr.write s r x) (.returned (.int .i64 (16:Nat))) W):=fun W hb=>bL.none_ ⟨gs,gl,ao,ca,P,HI.o⟩ hb (Sr.mM hc hf hl);have HL:=H9 (show ¬s.log.length+(Jn.enc x).length<=100000 by omega);clear hc hf hl;generalize Jn.enc x=y at *;go_wp2_with fail
       refine HX.o.mono ?_;rintro e w4 ⟨pX,Bl,rfl,_,hb4⟩;have hB4:=then_ HB3.o hb4;have qP:=HI.o.stay hB4;obtain⟨⟨c0,c1⟩,_⟩:=jO qP.row;have HW:=H9 (lH qP.log pX Bl y.length HL.o);have ig:=H9 hB4;clear hb4 hB4 qP;go_wp2_with fail
       refine HW.o.mono ?_;rintro e w5 ⟨rfl,Cr⟩;rw[Cr];clear Cr;go_wp2;go_ret;exact HR.o _ ig.o
     . have HR:Hid (∀W,aN W (av S w) g ⟨r.1,s.log++Jn.enc x,s.sure⟩->Turns S w W->bL S w g (Sr.write s r x) (.returned (.int .i64 0)) W):=fun W h1 h2=>by
        rw[Sr.pq hc hf hl];exact⟨rfl,h1,h2⟩
       have HL:=H9 (show s.log.length+(Jn.enc x).length<=100000 by omega);clear hc hf hl;generalize Jn.enc x=y at *;go_wp2_with fail
       refine HX.o.mono ?_;rintro e w4 ⟨pX,Bl,rfl,hO4,hb4⟩;have hB4:=then_ HB3.o hb4;have qP:=HI.o.stay hB4;obtain⟨⟨c0,c1⟩,_⟩:=jO qP.row;have HW:=H9 (jS qP.log pX Bl y.length y hO4.qc rfl HL.o);have Vf:=H9 (((BM.o.stay hb4).mono (S':=fun k=>w.heap.size<=k) (fun k _ e=>Nat.le_of_succ_le e)));have ig:=H9 hB4;clear hb4 hB4 qP hO4;go_wp2_with fail
       refine HW.o.mono ?_;rintro e w5 ⟨vW,XI,rfl,hL5,LJ,oM⟩;obtain⟨kW,hA,Pv⟩:=HI.o.laid ig.o Vf.o hL5 LJ oM;obtain⟨⟨y0,y1⟩,z0,z1⟩:=jO kW;have HA:=H9 hA;have Vg:=H9 Pv
       clear hL5 LJ oM kW hA Pv c0 c1;go_wp2;go_ret;exact HR.o _ HA.o Vg.o
 . have HR:Hid (bL S w g (Sr.write s r x) (.returned (.int .i64 (r.2:Int))) w3):=bL.none_ ⟨gs,gl,ao,ca,P,HI.o⟩ HB3.o (Sr.mK hc);have hc':¬(r.2:Int)=0:=by omega
   clear hc;generalize (r.2:Int)=rc at *;go_wp2;go_ret;exact HR.o
theorem Pw (s:Sr.Sh)(S:Nat->Prop)(g b1 b2:Nat)(x:Jn.E)(ta:Option Addr)(tn tc:Nat)(r:Sp.St×Nat)(w:World)(h:aN w S g s)(ok:Sr.Ok s)(hT:aU w ta tc x.text)(hn:x.text.length=tn)
 (hF:∀W g',Below w.heap.size w W->w.heap.size+1<=W.heap.size->bq W (fun k=>w.heap.size+1<=k) g' s.h->Calls prog 172 #[.pointer (some ⟨g',0,none⟩),.pointer (some ⟨b1,0,none⟩),.pointer (some ⟨b2,0,none⟩)] W (Did (fun k=>w.heap.size+1<=k) 104 W g' r)) :
 Calls prog 159 #[.pointer (some ⟨g,0,none⟩),.agg #[.int .i64 x.kind,.int .i64 x.id,.int .i64 x.n,.slice ta tn tc],.func (.func 172) #[] #[.pointer (some ⟨b1,0,none⟩),.pointer (some ⟨b2,0,none⟩)]] w (bL S w g (Sr.write s r x)):=by
 obtain⟨gs,gl,ao,ca,P,hI⟩:=h;have bQ:=(Below.refl _ w).alloc (Nat.le_refl _) (.cells #[.int .i64 x.kind,.int .i64 x.id,.int .i64 x.n,.slice ta tn tc] 217);have hI1:=hI.stay bQ;obtain⟨⟨c0,c1⟩,_⟩:=jO hI1.row;have HC:=H9 (pW s.h P gs _ hI1.ow (sM ok.h));have HI:=H9 hI;have jr:=H9 bQ;have HF:=H9 hF;have HT:=H9 hT
 have hlt:=hI.lt;clear hI hI1 bQ hF hT;go_enter func159,ntmps159;go_wp2_with fail
 refine HC.o.mono ?_;rintro e w2 ⟨g',rfl,hS2,hb2⟩;have hB2:Below w.heap.size w w2:=then_ jr.o hb2;have HD:=H9 (HF.o w2 g' hB2 (by have:=hb2.size;simpa using this) (hS2.mono (fun k _ e=>by simpa using e)));have HB2:=H9 hB2;have Hb2:=H9 hb2
 clear hS2 hb2 hB2 HC HF c0 c1;go_wp2_with fail
 refine HD.o.mono ?_;intro e w3 hd;have hsz2:=Hb2.o.size;have hs3:w.heap.size+1<=w2.heap.size:=by simpa using hsz2
 obtain⟨he,FT,hb3⟩:=hd.R8 hs3;have hbx:Below (w.heap.size+1) (w.alloc (.cells #[.int .i64 x.kind,.int .i64 x.id,.int .i64 x.n,.slice ta tn tc] 217)) w3:=(Hb2.o.mono (by simp)).trans hb3;have hB3:Below w.heap.size w w3:=HB2.o.trans (hb3.mono (Nat.le_succ _));obtain⟨x0,x1,x2,x3⟩:=yV (Nat.lt_succ_self _) hbx;have HB3:=H9 hB3;have BM:=H9 FT
 clear hd FT hb3 hbx hB3 hsz2 hs3 HD HB2 Hb2;subst he;by_cases hc:r.2=0
 . have HX:=H9 (nE x ta tn tc w3 (HT.o.stay HB3.o) hn);rw[hc];cases hf:Jn.fits x with
   | false =>
     have HR:Hid (∀W,Below w.heap.size w W->bL S w g (Sr.write s r x) (.returned (.int .i64 (1:Nat))) W):=fun W hb=>bL.none_ ⟨gs,gl,ao,ca,P,HI.o⟩ hb (Sr.o9 hc hf);unfold jY at HX;rw[pY hf] at HX;clear hc hf HI;go_wp2_with fail
     refine HX.o.mono ?_;rintro e w4 ⟨pX,Bl,rfl,_,hb4⟩;have ig:=H9 (then_ HB3.o hb4);clear hb4;go_wp2;go_ret;exact HR.o _ ig.o
   | true =>
     unfold jY at HX;rw[nG hf] at HX;have hlx:(Jn.enc x).length<=1048600:=by have:=Jn.wG hf;have:=Jn.o8 hf;omega
     by_cases hl:100000<s.log.length+(Jn.enc x).length
     . have HR:Hid (∀W,Below w.heap.size w W->bL S w g (Sr.write s r x) (.returned (.int .i64 (16:Nat))) W):=fun W hb=>bL.none_ ⟨gs,gl,ao,ca,P,HI.o⟩ hb (Sr.mM hc hf hl);have HL:=H9 (show ¬s.log.length+(Jn.enc x).length<=100000 by omega);clear hc hf hl;generalize Jn.enc x=y at *;go_wp2_with fail
       refine HX.o.mono ?_;rintro e w4 ⟨pX,Bl,rfl,_,hb4⟩;have hB4:=then_ HB3.o hb4;have qP:=HI.o.stay hB4;obtain⟨⟨c0,c1⟩,_⟩:=jO qP.row;have HW:=H9 (lH qP.log pX Bl y.length HL.o);have ig:=H9 hB4;clear hb4 hB4 qP;go_wp2_with fail
       refine HW.o.mono ?_;rintro e w5 ⟨rfl,Cr⟩;rw[Cr];clear Cr;go_wp2;go_ret;exact HR.o _ ig.o
     . have HR:Hid (∀W,aN W (av S w) g ⟨r.1,s.log++Jn.enc x,s.sure⟩->Turns S w W->bL S w g (Sr.write s r x) (.returned (.int .i64 0)) W):=fun W h1 h2=>by
        rw[Sr.pq hc hf hl];exact⟨rfl,h1,h2⟩
       have HL:=H9 (show s.log.length+(Jn.enc x).length<=100000 by omega);clear hc hf hl;generalize Jn.enc x=y at *;go_wp2_with fail
       refine HX.o.mono ?_;rintro e w4 ⟨pX,Bl,rfl,hO4,hb4⟩;have hB4:=then_ HB3.o hb4;have qP:=HI.o.stay hB4;obtain⟨⟨c0,c1⟩,_⟩:=jO qP.row;have HW:=H9 (jS qP.log pX Bl y.length y hO4.qc rfl HL.o);have Vf:=H9 (((BM.o.stay hb4).mono (S':=fun k=>w.heap.size<=k) (fun k _ e=>Nat.le_of_succ_le e)));have ig:=H9 hB4;clear hb4 hB4 qP hO4;go_wp2_with fail
       refine HW.o.mono ?_;rintro e w5 ⟨vW,XI,rfl,hL5,LJ,oM⟩;obtain⟨kW,hA,Pv⟩:=HI.o.laid ig.o Vf.o hL5 LJ oM;obtain⟨⟨y0,y1⟩,z0,z1⟩:=jO kW;have HA:=H9 hA;have Vg:=H9 Pv
       clear hL5 LJ oM kW hA Pv c0 c1;go_wp2;go_ret;exact HR.o _ HA.o Vg.o
 . have HR:Hid (bL S w g (Sr.write s r x) (.returned (.int .i64 (r.2:Int))) w3):=bL.none_ ⟨gs,gl,ao,ca,P,HI.o⟩ HB3.o (Sr.mK hc);have hc':¬(r.2:Int)=0:=by omega
   clear hc;generalize (r.2:Int)=rc at *;go_wp2;go_ret;exact HR.o
theorem Px (s:Sr.Sh)(S:Nat->Prop)(g b1 b2 b3:Nat)(x:Jn.E)(ta:Option Addr)(tn tc:Nat)(r:Sp.St×Nat)(w:World)(h:aN w S g s)(ok:Sr.Ok s)(hT:aU w ta tc x.text)(hn:x.text.length=tn)
 (hF:∀W g',Below w.heap.size w W->w.heap.size+1<=W.heap.size->bq W (fun k=>w.heap.size+1<=k) g' s.h->Calls prog 170 #[.pointer (some ⟨g',0,none⟩),.pointer (some ⟨b1,0,none⟩),.pointer (some ⟨b2,0,none⟩),.pointer (some ⟨b3,0,none⟩)] W (Did (fun k=>w.heap.size+1<=k) 104 W g' r)) :
 Calls prog 159 #[.pointer (some ⟨g,0,none⟩),.agg #[.int .i64 x.kind,.int .i64 x.id,.int .i64 x.n,.slice ta tn tc],.func (.func 170) #[] #[.pointer (some ⟨b1,0,none⟩),.pointer (some ⟨b2,0,none⟩),.pointer (some ⟨b3,0,none⟩)]] w (bL S w g (Sr.write s r x)):=by
 obtain⟨gs,gl,ao,ca,P,hI⟩:=h;have bQ:=(Below.refl _ w).alloc (Nat.le_refl _) (.cells #[.int .i64 x.kind,.int .i64 x.id,.int .i64 x.n,.slice ta tn tc] 217);have hI1:=hI.stay bQ;obtain⟨⟨c0,c1⟩,_⟩:=jO hI1.row;have HC:=H9 (pW s.h P gs _ hI1.ow (sM ok.h));have HI:=H9 hI;have jr:=H9 bQ;have HF:=H9 hF;have HT:=H9 hT
 have hlt:=hI.lt;clear hI hI1 bQ hF hT;go_enter func159,ntmps159;go_wp2_with fail
 refine HC.o.mono ?_;rintro e w2 ⟨g',rfl,hS2,hb2⟩;have hB2:Below w.heap.size w w2:=then_ jr.o hb2;have HD:=H9 (HF.o w2 g' hB2 (by have:=hb2.size;simpa using this) (hS2.mono (fun k _ e=>by simpa using e)));have HB2:=H9 hB2;have Hb2:=H9 hb2
 clear hS2 hb2 hB2 HC HF c0 c1;go_wp2_with fail
 refine HD.o.mono ?_;intro e w3 hd;have hsz2:=Hb2.o.size;have hs3:w.heap.size+1<=w2.heap.size:=by simpa using hsz2
 obtain⟨he,FT,hb3⟩:=hd.R8 hs3;have hbx:Below (w.heap.size+1) (w.alloc (.cells #[.int .i64 x.kind,.int .i64 x.id,.int .i64 x.n,.slice ta tn tc] 217)) w3:=(Hb2.o.mono (by simp)).trans hb3;have hB3:Below w.heap.size w w3:=HB2.o.trans (hb3.mono (Nat.le_succ _));obtain⟨x0,x1,x2,x3⟩:=yV (Nat.lt_succ_self _) hbx;have HB3:=H9 hB3;have BM:=H9 FT
 clear hd FT hb3 hbx hB3 hsz2 hs3 HD HB2 Hb2;subst he;by_cases hc:r.2=0
 . have HX:=H9 (nE x ta tn tc w3 (HT.o.stay HB3.o) hn);rw[hc];cases hf:Jn.fits x with
   | false =>
     have HR:Hid (∀W,Below w.heap.size w W->bL S w g (Sr.write s r x) (.returned (.int .i64 (1:Nat))) W):=fun W hb=>bL.none_ ⟨gs,gl,ao,ca,P,HI.o⟩ hb (Sr.o9 hc hf);unfold jY at HX;rw[pY hf] at HX;clear hc hf HI;go_wp2_with fail
     refine HX.o.mono ?_;rintro e w4 ⟨pX,Bl,rfl,_,hb4⟩;have ig:=H9 (then_ HB3.o hb4);clear hb4;go_wp2;go_ret;exact HR.o _ ig.o
   | true =>
     unfold jY at HX;rw[nG hf] at HX;have hlx:(Jn.enc x).length<=1048600:=by have:=Jn.wG hf;have:=Jn.o8 hf;omega
     by_cases hl:100000<s.log.length+(Jn.enc x).length
     . have HR:Hid (∀W,Below w.heap.size w W->bL S w g (Sr.write s r x) (.returned (.int .i64 (16:Nat))) W):=fun W hb=>bL.none_ ⟨gs,gl,ao,ca,P,HI.o⟩ hb (Sr.mM hc hf hl);have HL:=H9 (show ¬s.log.length+(Jn.enc x).length<=100000 by omega);clear hc hf hl;generalize Jn.enc x=y at *;go_wp2_with fail
       refine HX.o.mono ?_;rintro e w4 ⟨pX,Bl,rfl,_,hb4⟩;have hB4:=then_ HB3.o hb4;have qP:=HI.o.stay hB4;obtain⟨⟨c0,c1⟩,_⟩:=jO qP.row;have HW:=H9 (lH qP.log pX Bl y.length HL.o);have ig:=H9 hB4;clear hb4 hB4 qP;go_wp2_with fail
       refine HW.o.mono ?_;rintro e w5 ⟨rfl,Cr⟩;rw[Cr];clear Cr;go_wp2;go_ret;exact HR.o _ ig.o
     . have HR:Hid (∀W,aN W (av S w) g ⟨r.1,s.log++Jn.enc x,s.sure⟩->Turns S w W->bL S w g (Sr.write s r x) (.returned (.int .i64 0)) W):=fun W h1 h2=>by
        rw[Sr.pq hc hf hl];exact⟨rfl,h1,h2⟩
       have HL:=H9 (show s.log.length+(Jn.enc x).length<=100000 by omega);clear hc hf hl;generalize Jn.enc x=y at *;go_wp2_with fail
       refine HX.o.mono ?_;rintro e w4 ⟨pX,Bl,rfl,hO4,hb4⟩;have hB4:=then_ HB3.o hb4;have qP:=HI.o.stay hB4;obtain⟨⟨c0,c1⟩,_⟩:=jO qP.row;have HW:=H9 (jS qP.log pX Bl y.length y hO4.qc rfl HL.o);have Vf:=H9 (((BM.o.stay hb4).mono (S':=fun k=>w.heap.size<=k) (fun k _ e=>Nat.le_of_succ_le e)));have ig:=H9 hB4;clear hb4 hB4 qP hO4;go_wp2_with fail
       refine HW.o.mono ?_;rintro e w5 ⟨vW,XI,rfl,hL5,LJ,oM⟩;obtain⟨kW,hA,Pv⟩:=HI.o.laid ig.o Vf.o hL5 LJ oM;obtain⟨⟨y0,y1⟩,z0,z1⟩:=jO kW;have HA:=H9 hA;have Vg:=H9 Pv
       clear hL5 LJ oM kW hA Pv c0 c1;go_wp2;go_ret;exact HR.o _ HA.o Vg.o
 . have HR:Hid (bL S w g (Sr.write s r x) (.returned (.int .i64 (r.2:Int))) w3):=bL.none_ ⟨gs,gl,ao,ca,P,HI.o⟩ HB3.o (Sr.mK hc);have hc':¬(r.2:Int)=0:=by omega
   clear hc;generalize (r.2:Int)=rc at *;go_wp2;go_ret;exact HR.o
theorem Py (s:Sr.Sh)(S:Nat->Prop)(g b1 b2:Nat)(x:Jn.E)(ta:Option Addr)(tn tc:Nat)(r:Sp.St×Nat)(w:World)(h:aN w S g s)(ok:Sr.Ok s)(hT:aU w ta tc x.text)(hn:x.text.length=tn)
 (hF:∀W g',Below w.heap.size w W->w.heap.size+1<=W.heap.size->bq W (fun k=>w.heap.size+1<=k) g' s.h->Calls prog 160 #[.pointer (some ⟨g',0,none⟩),.pointer (some ⟨b1,0,none⟩),.pointer (some ⟨b2,0,none⟩)] W (Did (fun k=>w.heap.size+1<=k) 104 W g' r)) :
 Calls prog 159 #[.pointer (some ⟨g,0,none⟩),.agg #[.int .i64 x.kind,.int .i64 x.id,.int .i64 x.n,.slice ta tn tc],.func (.func 160) #[] #[.pointer (some ⟨b1,0,none⟩),.pointer (some ⟨b2,0,none⟩)]] w (bL S w g (Sr.write s r x)):=by
 obtain⟨gs,gl,ao,ca,P,hI⟩:=h;have bQ:=(Below.refl _ w).alloc (Nat.le_refl _) (.cells #[.int .i64 x.kind,.int .i64 x.id,.int .i64 x.n,.slice ta tn tc] 217);have hI1:=hI.stay bQ;obtain⟨⟨c0,c1⟩,_⟩:=jO hI1.row;have HC:=H9 (pW s.h P gs _ hI1.ow (sM ok.h));have HI:=H9 hI;have jr:=H9 bQ;have HF:=H9 hF;have HT:=H9 hT
 have hlt:=hI.lt;clear hI hI1 bQ hF hT;go_enter func159,ntmps159;go_wp2_with fail
 refine HC.o.mono ?_;rintro e w2 ⟨g',rfl,hS2,hb2⟩;have hB2:Below w.heap.size w w2:=then_ jr.o hb2;have HD:=H9 (HF.o w2 g' hB2 (by have:=hb2.size;simpa using this) (hS2.mono (fun k _ e=>by simpa using e)));have HB2:=H9 hB2;have Hb2:=H9 hb2
 clear hS2 hb2 hB2 HC HF c0 c1;go_wp2_with fail
 refine HD.o.mono ?_;intro e w3 hd;have hsz2:=Hb2.o.size;have hs3:w.heap.size+1<=w2.heap.size:=by simpa using hsz2
 obtain⟨he,FT,hb3⟩:=hd.R8 hs3;have hbx:Below (w.heap.size+1) (w.alloc (.cells #[.int .i64 x.kind,.int .i64 x.id,.int .i64 x.n,.slice ta tn tc] 217)) w3:=(Hb2.o.mono (by simp)).trans hb3;have hB3:Below w.heap.size w w3:=HB2.o.trans (hb3.mono (Nat.le_succ _));obtain⟨x0,x1,x2,x3⟩:=yV (Nat.lt_succ_self _) hbx;have HB3:=H9 hB3;have BM:=H9 FT
 clear hd FT hb3 hbx hB3 hsz2 hs3 HD HB2 Hb2;subst he;by_cases hc:r.2=0
 . have HX:=H9 (nE x ta tn tc w3 (HT.o.stay HB3.o) hn);rw[hc];cases hf:Jn.fits x with
   | false =>
     have HR:Hid (∀W,Below w.heap.size w W->bL S w g (Sr.write s r x) (.returned (.int .i64 (1:Nat))) W):=fun W hb=>bL.none_ ⟨gs,gl,ao,ca,P,HI.o⟩ hb (Sr.o9 hc hf);unfold jY at HX;rw[pY hf] at HX;clear hc hf HI;go_wp2_with fail
     refine HX.o.mono ?_;rintro e w4 ⟨pX,Bl,rfl,_,hb4⟩;have ig:=H9 (then_ HB3.o hb4);clear hb4;go_wp2;go_ret;exact HR.o _ ig.o
   | true =>
     unfold jY at HX;rw[nG hf] at HX;have hlx:(Jn.enc x).length<=1048600:=by have:=Jn.wG hf;have:=Jn.o8 hf;omega
     by_cases hl:100000<s.log.length+(Jn.enc x).length
     . have HR:Hid (∀W,Below w.heap.size w W->bL S w g (Sr.write s r x) (.returned (.int .i64 (16:Nat))) W):=fun W hb=>bL.none_ ⟨gs,gl,ao,ca,P,HI.o⟩ hb (Sr.mM hc hf hl);have HL:=H9 (show ¬s.log.length+(Jn.enc x).length<=100000 by omega);clear hc hf hl;generalize Jn.enc x=y at *;go_wp2_with fail
       refine HX.o.mono ?_;rintro e w4 ⟨pX,Bl,rfl,_,hb4⟩;have hB4:=then_ HB3.o hb4;have qP:=HI.o.stay hB4;obtain⟨⟨c0,c1⟩,_⟩:=jO qP.row;have HW:=H9 (lH qP.log pX Bl y.length HL.o);have ig:=H9 hB4;clear hb4 hB4 qP;go_wp2_with fail
       refine HW.o.mono ?_;rintro e w5 ⟨rfl,Cr⟩;rw[Cr];clear Cr;go_wp2;go_ret;exact HR.o _ ig.o
     . have HR:Hid (∀W,aN W (av S w) g ⟨r.1,s.log++Jn.enc x,s.sure⟩->Turns S w W->bL S w g (Sr.write s r x) (.returned (.int .i64 0)) W):=fun W h1 h2=>by
        rw[Sr.pq hc hf hl];exact⟨rfl,h1,h2⟩
       have HL:=H9 (show s.log.length+(Jn.enc x).length<=100000 by omega);clear hc hf hl;generalize Jn.enc x=y at *;go_wp2_with fail
       refine HX.o.mono ?_;rintro e w4 ⟨pX,Bl,rfl,hO4,hb4⟩;have hB4:=then_ HB3.o hb4;have qP:=HI.o.stay hB4;obtain⟨⟨c0,c1⟩,_⟩:=jO qP.row;have HW:=H9 (jS qP.log pX Bl y.length y hO4.qc rfl HL.o);have Vf:=H9 (((BM.o.stay hb4).mono (S':=fun k=>w.heap.size<=k) (fun k _ e=>Nat.le_of_succ_le e)));have ig:=H9 hB4;clear hb4 hB4 qP hO4;go_wp2_with fail
       refine HW.o.mono ?_;rintro e w5 ⟨vW,XI,rfl,hL5,LJ,oM⟩;obtain⟨kW,hA,Pv⟩:=HI.o.laid ig.o Vf.o hL5 LJ oM;obtain⟨⟨y0,y1⟩,z0,z1⟩:=jO kW;have HA:=H9 hA;have Vg:=H9 Pv
       clear hL5 LJ oM kW hA Pv c0 c1;go_wp2;go_ret;exact HR.o _ HA.o Vg.o
 . have HR:Hid (bL S w g (Sr.write s r x) (.returned (.int .i64 (r.2:Int))) w3):=bL.none_ ⟨gs,gl,ao,ca,P,HI.o⟩ HB3.o (Sr.mK hc);have hc':¬(r.2:Int)=0:=by omega
   clear hc;generalize (r.2:Int)=rc at *;go_wp2;go_ret;exact HR.o
theorem uE (w:World):
 Calls prog 8 #[] w fun e w'=>∃g,e=.returned (.pointer (some ⟨g,0,none⟩))∧aN w' (fun k=>w.heap.size<=k) g Sr.new∧Below w.heap.size w w':=by
 have H0:=H9 (Pz w);have H1:=H9 (fun W=>Gu W);go_enter func8,ntmps8;go_wp2_with fail
 refine H0.o.mono ?_;rintro e w1 ⟨rfl,hS,hb⟩;have hs:=hS.lt;have HS:=H9 hS;have HB:=H9 hb
 clear hS hb;go_wp2_with fail
 refine(H1.o w1).mono ?_;rintro e w2 ⟨rfl,hL,hb2⟩;have hs2:=hL.lt;have hz:=hb2.size;have hsz:=HB.o.size;have HB2:=H9 (then_ HB.o hb2);have HX:Hid (aN (w2.alloc (.cells #[.pointer (some ⟨w.heap.size,0,none⟩),.pointer (some ⟨w1.heap.size,0,none⟩)] 45)) (fun k=>w.heap.size<=k) w2.heap.size Sr.new∧Below w.heap.size w (w2.alloc (.cells #[.pointer (some ⟨w.heap.size,0,none⟩),.pointer (some ⟨w1.heap.size,0,none⟩)] 45))):=by
  have bQ:=(Below.refl _ w2).alloc (Nat.le_refl _) (.cells #[.pointer (some ⟨w.heap.size,0,none⟩),.pointer (some ⟨w1.heap.size,0,none⟩)] 45);have hl0:dR w2 0 w1.heap.size [] 0 none 0:=⟨hL.row,aT.nil _ _ _,Nat.zero_le _,hL.le,hL.few⟩;refine⟨⟨w.heap.size,w1.heap.size,none,0,fun k=>w.heap.size<=k∧k<w1.heap.size,heap_alloc_new w2 _,((HS.o.mono (S':=fun k=>w.heap.size<=k∧k<w1.heap.size) (fun k hk e=>⟨e,hk⟩)).stay hb2).stay bQ,hl0.stay bQ,HB2.o.size,fun k e=>⟨e.1,by omega,fun e2=>?_⟩,fun k e=>?_⟩,then_ HB2.o bQ⟩
  . rcases e2 with e2 | e2
    . omega
    . cases e2
  . rcases e with e | e
    . exact⟨by show w.heap.size<=k;omega,by omega⟩
    . cases e
 clear hL hb2 hz hsz HB HB2 HS;go_wp2;go_ret;exact⟨_,rfl,HX.o.1,HX.o.2⟩
section
variable {s:Sr.Sh} {S:Nat->Prop} {g:Nat} {w:World}
theorem nu.turned {w':World}{gs gl:Nat}{ao:Option Addr}{ca:Nat}{P:Nat->Prop}{OC:List UInt8}{Ei:Nat}(h:nu w S g gs gl ao ca P s)(hL:dR w' 0 gl OC Ei ao ca)(ht:Turns (fun k=>k=gl) w w'):nu w' S g gs gl ao ca P ⟨s.h,OC,Ei⟩∧Turns S w w' :=
 ⟨⟨ht.row h.row (fun e=>(h.Jy gl (Or.inl rfl)).2 e.symm),h.ow.turns ht (fun k e e2=>(h.Wh k e).2.2 (Or.inl e2)),hL,h.self,h.Wh,h.Jy⟩,ht.mono (fun k e=>by subst e;exact(h.Jy _ (Or.inl rfl)).1)⟩
theorem jk (h:aN w S g s):
 Calls prog 121 #[.pointer (some ⟨g,0,none⟩)] w fun e w'=>e=.returned (.tuple #[])∧aN w' S g (Sr.sync s)∧Turns S w w':=by
 obtain⟨gs,gl,ao,ca,P,hI⟩:=h;obtain⟨⟨c0,c1⟩,_⟩:=jO hI.row;have HR:=H9 (Eh hI.log);have HI:=H9 hI;clear hI;go_enter func121,ntmps121;go_wp2_with fail
 refine HR.o.mono ?_;rintro e w1 ⟨rfl,hL,ht⟩;obtain⟨h1,h2⟩:=HI.o.turned hL ht;have HX:Hid (aN w1 S g (Sr.sync s)∧Turns S w w1):=⟨⟨gs,gl,ao,ca,P,h1⟩,h2⟩;clear hL ht h1 h2;go_wp2;go_end0
 exact⟨rfl,HX.o.1,HX.o.2⟩
end
section
variable {s:Sr.Sh} {S:Nat->Prop} {g:Nat} {w:World}
theorem qQ (h:aN w S g s)(ok:Sr.Ok s)(id:Int):
 Calls prog 132 #[.pointer (some ⟨g,0,none⟩),.int .i64 id] w (bL S w g (Sr.drop s id)):=by
 have hB:Below w.heap.size w ((w.alloc (.cells #[.int .i64 id] 3)).alloc (.cells #[.int .i64 4,.int .i64 id,.int .i64 0,.slice none 0 0] 217)):=((Below.refl _ _).alloc (by simp;try omega) _).alloc (by simp;try omega) _;have hc1:∀W,Below ((w.alloc (.cells #[.int .i64 id] 3)).alloc (.cells #[.int .i64 4,.int .i64 id,.int .i64 0,.slice none 0 0] 217)).heap.size ((w.alloc (.cells #[.int .i64 id] 3)).alloc (.cells #[.int .i64 4,.int .i64 id,.int .i64 0,.slice none 0 0] 217)) W->W.cell? ⟨w.heap.size,0,none⟩=some (.int .i64 id):=fun W hW=>by rw[hW.cell (p:=⟨w.heap.size,0,none⟩) (by simp;try omega)];exact dU _ _ _ _ (gH _ _ _ _ (by simp;try omega))
 have HC:=H9 (Pq s S g w.heap.size ⟨4,id,0,[]⟩ none 0 0 (Sp.drop s.h id) _ (h.stay hB) ok (aU.nil _) rfl (fun W g' hW _ hS=>LC s.h _ g' w.heap.size id W hS ok.h (hc1 W hW)));have HB:=H9 hB;have M7:∀(fn:Fn) (first cap:Array Value) (w:World),(Instr.makeFunc fn first cap).run prog w=.ok (.func fn first cap) w:=fun _ _ _ _=>rfl;unfold Sr.drop;generalize Sr.write s _ _=r at *;clear h ok hB hc1;go_enter func132,ntmps132;go_wp2_with fail
 refine HC.o.mono ?_;intro e w2 hd;have HD:=H9 (bL.from_ HB.o hd);obtain⟨rfl,_,_⟩:=hd;go_wp2;go_ret;exact HD.o
theorem zS (h:aN w S g s)(ok:Sr.Ok s)(id:Int)(sz:Int):
 Calls prog 131 #[.pointer (some ⟨g,0,none⟩),.int .i64 id,.int .i64 sz] w (bL S w g (Sr.declare s id sz)):=by
 have hB:Below w.heap.size w (((w.alloc (.cells #[.int .i64 id] 3)).alloc (.cells #[.int .i64 sz] 3)).alloc (.cells #[.int .i64 3,.int .i64 id,.int .i64 sz,.slice none 0 0] 217)):=(((Below.refl _ _).alloc (by simp;try omega) _).alloc (by simp;try omega) _).alloc (by simp;try omega) _;have hc1:∀W,Below (((w.alloc (.cells #[.int .i64 id] 3)).alloc (.cells #[.int .i64 sz] 3)).alloc (.cells #[.int .i64 3,.int .i64 id,.int .i64 sz,.slice none 0 0] 217)).heap.size (((w.alloc (.cells #[.int .i64 id] 3)).alloc (.cells #[.int .i64 sz] 3)).alloc (.cells #[.int .i64 3,.int .i64 id,.int .i64 sz,.slice none 0 0] 217)) W->W.cell? ⟨w.heap.size,0,none⟩=some (.int .i64 id):=fun W hW=>by rw[hW.cell (p:=⟨w.heap.size,0,none⟩) (by simp;try omega)];exact dU _ _ _ _ (dU _ _ _ _ (gH _ _ _ _ (by simp;try omega)))
 have hc2:∀W,Below (((w.alloc (.cells #[.int .i64 id] 3)).alloc (.cells #[.int .i64 sz] 3)).alloc (.cells #[.int .i64 3,.int .i64 id,.int .i64 sz,.slice none 0 0] 217)).heap.size (((w.alloc (.cells #[.int .i64 id] 3)).alloc (.cells #[.int .i64 sz] 3)).alloc (.cells #[.int .i64 3,.int .i64 id,.int .i64 sz,.slice none 0 0] 217)) W->W.cell? ⟨w.heap.size+1,0,none⟩=some (.int .i64 sz):=fun W hW=>by rw[hW.cell (p:=⟨w.heap.size+1,0,none⟩) (by simp;try omega)];exact dU _ _ _ _ (gH _ _ _ _ (by simp;try omega))
 have HC:=H9 (Pw s S g w.heap.size (w.heap.size+1) ⟨3,id,sz,[]⟩ none 0 0 (Sp.declare s.h id sz) _ (h.stay hB) ok (aU.nil _) rfl (fun W g' hW _ hS=>LD s.h _ g' w.heap.size (w.heap.size+1) id sz W hS ok.h (hc1 W hW) (hc2 W hW)));have HB:=H9 hB;have M7:∀(fn:Fn) (first cap:Array Value) (w:World),(Instr.makeFunc fn first cap).run prog w=.ok (.func fn first cap) w:=fun _ _ _ _=>rfl;unfold Sr.declare;generalize Sr.write s _ _=r at *;clear h ok hB hc1 hc2;go_enter func131,ntmps131;go_wp2_with fail
 refine HC.o.mono ?_;intro e w2 hd;have HD:=H9 (bL.from_ HB.o hd);obtain⟨rfl,_,_⟩:=hd;go_wp2;go_ret;exact HD.o
theorem jZ (h:aN w S g s)(ok:Sr.Ok s)(id:Int)(off:Int)(bo:Option Addr)(bn bc:Nat)(l:List UInt8)(hb:aU w bo bc l)(hn:l.length=bn)(hN:bn<=1000000):
 Calls prog 130 #[.pointer (some ⟨g,0,none⟩),.int .i64 id,.int .i64 off,.slice bo bn bc] w (bL S w g (Sr.append s id off l)):=by
 have hB:Below w.heap.size w ((((w.alloc (.cells #[.int .i64 id] 3)).alloc (.cells #[.int .i64 off] 3)).alloc (.cells #[.slice bo bn bc] 31)).alloc (.cells #[.int .i64 2,.int .i64 id,.int .i64 0,.slice bo bn bc] 217)):=((((Below.refl _ _).alloc (by simp;try omega) _).alloc (by simp;try omega) _).alloc (by simp;try omega) _).alloc (by simp;try omega) _;have hc1:∀W,Below ((((w.alloc (.cells #[.int .i64 id] 3)).alloc (.cells #[.int .i64 off] 3)).alloc (.cells #[.slice bo bn bc] 31)).alloc (.cells #[.int .i64 2,.int .i64 id,.int .i64 0,.slice bo bn bc] 217)).heap.size ((((w.alloc (.cells #[.int .i64 id] 3)).alloc (.cells #[.int .i64 off] 3)).alloc (.cells #[.slice bo bn bc] 31)).alloc (.cells #[.int .i64 2,.int .i64 id,.int .i64 0,.slice bo bn bc] 217)) W->W.cell? ⟨w.heap.size,0,none⟩=some (.int .i64 id):=fun W hW=>by rw[hW.cell (p:=⟨w.heap.size,0,none⟩) (by simp;try omega)];exact dU _ _ _ _ (dU _ _ _ _ (dU _ _ _ _ (gH _ _ _ _ (by simp;try omega))))
 have hc2:∀W,Below ((((w.alloc (.cells #[.int .i64 id] 3)).alloc (.cells #[.int .i64 off] 3)).alloc (.cells #[.slice bo bn bc] 31)).alloc (.cells #[.int .i64 2,.int .i64 id,.int .i64 0,.slice bo bn bc] 217)).heap.size ((((w.alloc (.cells #[.int .i64 id] 3)).alloc (.cells #[.int .i64 off] 3)).alloc (.cells #[.slice bo bn bc] 31)).alloc (.cells #[.int .i64 2,.int .i64 id,.int .i64 0,.slice bo bn bc] 217)) W->W.cell? ⟨w.heap.size+1,0,none⟩=some (.int .i64 off):=fun W hW=>by rw[hW.cell (p:=⟨w.heap.size+1,0,none⟩) (by simp;try omega)];exact dU _ _ _ _ (dU _ _ _ _ (gH _ _ _ _ (by simp;try omega)))
 have hc3:∀W,Below ((((w.alloc (.cells #[.int .i64 id] 3)).alloc (.cells #[.int .i64 off] 3)).alloc (.cells #[.slice bo bn bc] 31)).alloc (.cells #[.int .i64 2,.int .i64 id,.int .i64 0,.slice bo bn bc] 217)).heap.size ((((w.alloc (.cells #[.int .i64 id] 3)).alloc (.cells #[.int .i64 off] 3)).alloc (.cells #[.slice bo bn bc] 31)).alloc (.cells #[.int .i64 2,.int .i64 id,.int .i64 0,.slice bo bn bc] 217)) W->W.cell? ⟨w.heap.size+2,0,none⟩=some (.slice bo bn bc):=fun W hW=>by rw[hW.cell (p:=⟨w.heap.size+2,0,none⟩) (by simp;try omega)];exact dU _ _ _ _ (gH _ _ _ _ (by simp;try omega))
 have HC:=H9 (Px s S g w.heap.size (w.heap.size+1) (w.heap.size+2) ⟨2,id,0,l⟩ bo bn bc (Sp.append s.h id off l) _ (h.stay hB) ok (hb.stay hB) hn (fun W g' hW _ hS=>LG s.h _ g' w.heap.size (w.heap.size+1) (w.heap.size+2) id off bo bn bc l W hS ok.h (hc1 W hW) (hc2 W hW) (hc3 W hW) ((hb.stay hB).stay hW) hn hN));have HB:=H9 hB;have M7:∀(fn:Fn) (first cap:Array Value) (w:World),(Instr.makeFunc fn first cap).run prog w=.ok (.func fn first cap) w:=fun _ _ _ _=>rfl;unfold Sr.append;generalize Sr.write s _ _=r at *;clear h ok hB hc1 hc2 hc3 hb hn;go_enter func130,ntmps130;go_wp2_with fail
 refine HC.o.mono ?_;intro e w2 hd;have HD:=H9 (bL.from_ HB.o hd);obtain⟨rfl,_,_⟩:=hd;go_wp2;go_ret;exact HD.o
end
structure PD (S:Nat->Prop)(w:World)(g:Nat)(s:Sr.Sh)(r:Sr.Sh×Nat)(e:Ending)(w':World):Prop where
 ret:e=.returned (.tuple #[.int .i64 (Sr.wZ s r.2),.int .i64 (r.2:Int)])
 at_:aN w' (av S w) g r.1
 turns:Turns S w w'
section
variable {s:Sr.Sh} {S:Nat->Prop} {g:Nat} {w:World}
theorem sN (h:aN w S g s)(ok:Sr.Ok s)(sz:Int)(m:ByteArray)(hm:m.size<=1000000):
 Calls prog 119 #[.pointer (some ⟨g,0,none⟩),.int .i64 sz,.string m] w (PD S w g s (Sr.create s sz m)):=by
 have hB2:Below w.heap.size w ((w.alloc (.cells #[.int .i64 sz] 3)).alloc (.cells #[.string m] 9)):=((Below.refl _ _).alloc (Nat.le_refl _) _).alloc (by simp) _;have e1:((w.alloc (.cells #[.int .i64 sz] 3)).alloc (.cells #[.string m] 9)).cell? ⟨w.heap.size,0,none⟩=some (.int .i64 sz):=dU _ _ _ _ (gH _ _ _ _ rfl);have e2:((w.alloc (.cells #[.int .i64 sz] 3)).alloc (.cells #[.string m] 9)).cell? ⟨w.heap.size+1,0,none⟩=some (.string m):=gH _ _ _ _ (by simp);have hs2:((w.alloc (.cells #[.int .i64 sz] 3)).alloc (.cells #[.string m] 9)).heap.size=w.heap.size+2:=by simp
 obtain⟨W2,hW2⟩:∃W,((w.alloc (.cells #[.int .i64 sz] 3)).alloc (.cells #[.string m] 9))=W:=⟨_,rfl⟩;rw[hW2] at hB2 e1 e2 hs2;have h2:=h.stay hB2;obtain⟨gs,gl,ao,ca,P,hI⟩:=h2;obtain⟨⟨c0,c1⟩,_⟩:=jO hI.row;have hl:=ok.Di;have HN:=H9 (Bf s.h P gs W2 hI.ow ok.h.wU (by omega));obtain⟨bc,W3,hcv,hb3,hs3,hIB⟩:=Np (P:=prog) W2 m 9 31 5 underlying9 underlying31 underlying5;have hB3:=then_ hB2 hb3;have bQ:=(Below.refl _ W3).alloc (Nat.le_refl _) (.cells #[.int .i64 1,.int .i64 (s.h.last+1),.int .i64 sz,.slice (some ⟨W2.heap.size,0,none⟩) m.size bc] 217);have hB4:=then_ hB3 bQ;have hc1:∀W,Below (W3.alloc (.cells #[.int .i64 1,.int .i64 (s.h.last+1),.int .i64 sz,.slice (some ⟨W2.heap.size,0,none⟩) m.size bc] 217)).heap.size (W3.alloc (.cells #[.int .i64 1,.int .i64 (s.h.last+1),.int .i64 sz,.slice (some ⟨W2.heap.size,0,none⟩) m.size bc] 217)) W->W.cell? ⟨w.heap.size,0,none⟩=some (.int .i64 sz)∧W.cell? ⟨w.heap.size+1,0,none⟩=some (.string m):=fun W hW=>by
  have hb5:Below W2.heap.size W2 W:=then_ hb3 (then_ bQ hW);exact⟨(hb5.cell (p:=⟨w.heap.size,0,none⟩) (show w.heap.size<W2.heap.size by omega)).trans e1,(hb5.cell (p:=⟨w.heap.size+1,0,none⟩) (show w.heap.size+1<W2.heap.size by omega)).trans e2⟩
 have HC:=H9 (Py s S g w.heap.size (w.heap.size+1) ⟨1,s.h.last+1,sz,m.data.toList⟩ (some ⟨W2.heap.size,0,none⟩) m.size bc (Sr.made s.h sz m) _ (h.stay hB4) ok (hIB.stay bQ) (by simp) (fun W g' hW _ hS=>LH s.h _ g' w.heap.size (w.heap.size+1) sz m W hS ok.h (hc1 W hW).1 (hc1 W hW).2 (by omega) hm));have HB:=H9 hB4;have M7:∀(fn:Fn) (first cap:Array Value) (w:World),(Instr.makeFunc fn first cap).run prog w=.ok (.func fn first cap) w:=fun _ _ _ _=>rfl;have d1:W3.cell? ⟨w.heap.size,0,none⟩=some (.int .i64 sz):=(hb3.cell (p:=⟨w.heap.size,0,none⟩) (show w.heap.size<W2.heap.size by omega)).trans e1;unfold Sr.create;generalize Sr.write s _ _=r at *;have Ep:Hid (∀c:Nat,c=0->Sr.wZ s c=s.h.last+1):=fun c hc=>by unfold Sr.wZ;rw[if_pos hc]
 have ZR:Hid (∀c:Nat,c≠0->Sr.wZ s c=0):=fun c hc=>by unfold Sr.wZ;rw[if_neg hc]
 have BM:=H9 hs3;clear h ok hB2 hB3 hB4 bQ hc1 hI hs2 hs3 hIB hb3 c1 hm;generalize hla:s.h.last=la at *;clear hla;go_enter func119,ntmps119;go_wp2_with fail
 clear hW2;refine HN.o.mono ?_;rintro e w1 ⟨rfl,hw⟩;rw[hw];clear hw;go_wp2_with fail
 refine HC.o.mono ?_;intro e w2 hd;have hD:=bL.from_ HB.o hd;have HD:=H9 hD;clear hD;obtain⟨rfl,_,_⟩:=hd;by_cases hc:r.2=0
 . rw[hc];go_wp2;go_ret2;exact⟨by rw[Ep.o _ hc,hc];rfl,HD.o.at_,HD.o.turns⟩
 . have hc':¬(r.2:Int)=0:=by omega
   have HX:Hid (∀v,v=(r.2:Int)->PD S w g s r (.returned (.tuple #[.int .i64 0,.int .i64 v])) w2):=fun v hv=>⟨by rw[ZR.o _ hc,hv],HD.o.at_,HD.o.turns⟩;clear hc HD;generalize (r.2:Int)=rc at *;go_wp2;go_ret2;exact HX.o _ rfl
end
theorem bR.anew {w:World}{g:Nat}{sk ln:Value}{fo:Option Addr}{nf ak:Nat}{ah pl pt cd:Int}(h:bR w g sk ah ln fo nf ak pl pt cd)(XL Y9:Int):
 bR (((((((w.setCell ⟨g,0,none⟩ (.pointer none)).setCell ⟨g,1,none⟩ (.int .i64 0)).setCell ⟨g,2,none⟩ (.pointer none)).setCell ⟨g,3,none⟩ (.slice none 0 0)).setCell ⟨g,4,none⟩ (.int .i64 XL)).setCell ⟨g,5,none⟩ (.int .i64 0)).setCell ⟨g,6,none⟩ (.int .i64 Y9)) g (.pointer none) 0 (.pointer none) none 0 0 XL 0 Y9 ∧
 Turns (fun k=>k=g) w (((((((w.setCell ⟨g,0,none⟩ (.pointer none)).setCell ⟨g,1,none⟩ (.int .i64 0)).setCell ⟨g,2,none⟩ (.pointer none)).setCell ⟨g,3,none⟩ (.slice none 0 0)).setCell ⟨g,4,none⟩ (.int .i64 XL)).setCell ⟨g,5,none⟩ (.int .i64 0)).setCell ⟨g,6,none⟩ (.int .i64 Y9)):=by
 have s0:bR (w.setCell ⟨g,0,none⟩ (.pointer none)) g (.pointer none) ah ln fo nf ak pl pt cd:=⟨by rw[heap_setCell_same w g 0 _ _ _ h.row];rfl⟩;have s1:=s0.s1 0;have s2:bR (((w.setCell ⟨g,0,none⟩ (.pointer none)).setCell ⟨g,1,none⟩ (.int .i64 0)).setCell ⟨g,2,none⟩ (.pointer none)) g (.pointer none) 0 (.pointer none) fo nf ak pl pt cd:=⟨by rw[heap_setCell_same _ g 2 _ _ _ s1.row];rfl⟩;have s5:=((s2.s3 none 0 0).s4 XL).s5 0;refine⟨⟨by rw[heap_setCell_same _ g 6 _ _ _ s5.row];rfl⟩,aM g [.pointer none,.int .i64 0,.pointer none,.slice none 0 0,.int .i64 XL,.int .i64 0,.int .i64 Y9] 0 w⟩
theorem qV (w:World)(S So:Nat->Prop)(g gt:Nat)(m:List UInt8)(s:Fm.St)(c:UInt8)(t:Fm.Td)(h:dG w S g m s)(hl:Fm.live s)(hp:s.place=1∨s.place=2∨s.place=3∨s.place=4)(hO:gP w So gt t)(hd:∀k,S k->¬So k)(hes:t.es.length<=80000):
 Calls prog 270 #[.pointer (some ⟨g,0,none⟩),.pointer (some ⟨gt,0,none⟩),.int .u8 c.toNat] w fun e w'=>Sm w S So g gt m s c t e w':=by
 have hP:=Pair.start h hO hd;have hN:=Fm.Ky m hp hl.1 c;have Ht:=H9 (PN w s.place c hp);cases hP.fm with
 | dead h2 me row=>exact absurd hl h2
 | live h2 me gs gl p fo ak D row inn =>
   have HP:=H9 hP;have HN:=H9 hN;have zP:=H9 row;have HL:=H9 hl;have Sj:=H9 me
   have c4:=row.c4;have f4:=row.fz 4
   have hlt:=row.lt;have hgo:¬So g:=hd g me.1;have TU:=H9 hgo;clear inn row h2 h hO hd hN hP hl me hgo;generalize hx:(Fm.turn s.place c).1=x at *;generalize hy:(Fm.turn s.place c).2=y at *;by_cases hy0:y=0
   . subst hy0;by_cases hx6:x=6
     . subst hx6;have hr4:=zP.o.s4 6;have c0':=hr4.c0;have c1':=hr4.c1;have c2':=hr4.c2;have c3':=hr4.c3;have c4':=hr4.c4;have c5':=hr4.c5;have c6':=hr4.c6
       have f0':=hr4.fz 0;have f1':=hr4.fz 1;have f2':=hr4.fz 2;have f3':=hr4.fz 3;have f4':=hr4.fz 4;have f5':=hr4.fz 5;have f6':=hr4.fz 6
       obtain⟨Nc,vH⟩:=hr4.anew 6 0;have TL:=H9 Nc;have HT7:=H9 vH
       have hT:Turns (fun k=>S k∧k<w.heap.size) w _:=((bR.set w g 4 (.int .i64 6)).trans vH (fun _ e _=>e)).mono (S':=fun k=>S k∧k<w.heap.size) (fun k e=>by subst e;exact Sj.o);have hDone:dG _ (fun k=>S k∧k<w.heap.size) g m Fm.done:=.dead Fm.Kw Sj.o TL.o;have hP7:=HP.o.form hDone hT;have Q0:=H9 hP7;have LW:=H9 (p8 _ _ gt t 3 ⟨#[]⟩ ⟨#[]⟩ ⟨#[]⟩ 0 hP7.td (by decide) (by omega));clear hr4 Nc vH hT hDone hP7;go_enter func270,ntmps270;go_wp2_with fail
       refine Ht.o.mono ?_;rintro e w1 ⟨rfl,hw⟩;subst hw;go_wp2_with fail
       refine LW.o.mono ?_;rintro e w5 ⟨rfl,yH,nD⟩;have HW:=H9 (Q0.o.told yH nD).1;clear yH nD;go_wp2;go_ret;refine .ok rfl ?_;rw[HN.o];exact HW.o
     . have t6:((x:Int)==6)=false:=by rw[beq_eq_false_iff_ne];omega
       obtain⟨hm1,hm2⟩:=HP.o.fm.move HL.o x hx6;have HW:=H9 (HP.o.form hm1 hm2).went;clear hm1 hm2;go_enter func270,ntmps270;go_wp2_with fail
       refine Ht.o.mono ?_;rintro e w1 ⟨rfl,hw⟩;subst hw;clear Ht hx hy;go_wp2;go_ret;refine .ok rfl ?_;rw[HN.o,if_neg (fun e=>e rfl),if_neg hx6];exact HW.o
   . have hx0:x≠6:=fun e=>by
      have:=Fm.Kz s.place c;rw[hx,hy] at this;exact hy0 (this e)
     have t6:((x:Int)==6)=false:=by rw[beq_eq_false_iff_ne];omega
     have HR4:=H9 (zP.o.s4 (x:Int));go_enter func270,ntmps270;go_wp2_with fail
     refine Ht.o.mono ?_;rintro e w1 ⟨rfl,hw⟩;subst hw;clear Ht hx hy hx0;have HT:Hid (Turns (fun k=>S k∧k<w1.heap.size) w1 (w1.setCell ⟨g,4,none⟩ (.int .i64 (x:Int)))):=(bR.set w1 g 4 _).mono (fun k e=>by subst e;exact Sj.o);go_wp2;go_ret;refine .fail y hy0 (by rw[HN.o,if_pos hy0]) rfl ?_;exact .mk _ _ _ _ _ _ _ _ _ _ HR4.o (HP.o.td.turns HT.o (fun k e e2=>HP.o.apart k e2.1 e.1)) (fun e=>TU.o e.1) (fun k e=>Or.inl e.1) (HT.o.mono (fun k e=>Or.inl e.1))
inductive Vt (w:World)(g:Nat)(fo:Option Addr)(nf:Nat)(fs:List Rq.Fl)(t:List UInt8)(e:Ending)(w':World):Prop
 | many (h:nf=16) (he:e=.returned (.int .i64 8)) (hw:w'=w)
 | bad (h:nf≠16) (c:Nat) (hc:c≠0) (hd:(Fd.of t).code=c) (he:e=.returned (.int .i64 (c:Int))) (hB:Below w.heap.size w w')
 | ok (h:nf≠16) (hd:(Fd.of t).code=0) (w3:World) (g3 aI:Nat) (he:e=.returned (.int .i64 0)) (hw:w'=w3.setCell ⟨g,3,none⟩ (.slice (some ⟨g3,0,none⟩) (nf+1) aI)) (hO:aC w3 0 111 2 (some ⟨g3,0,none⟩) aI (nf+1) (aB (Rq.iH (fs++[((Fd.of t).name,(Fd.of t).value)])))) (hT:Turns (fun k=>au fo=some k) w w3) (hat:au fo=some g3∨w.heap.size<=g3)
theorem Ij (w:World)(g:Nat)(fo:Option Addr)(nf ak:Nat)(fs:List Rq.Fl)(t:ByteArray)(c3:w.cell? ⟨g,3,none⟩=some (.slice fo nf ak))(f3:w.frozen? ⟨g,3,none⟩=false)(hne:au fo≠some g)(ho:aC w 0 111 2 fo ak nf (aB (Rq.iH fs)))(hn:nf<=16)(ht:t.size<=2000):
 Calls prog 294 #[.pointer (some ⟨g,2,none⟩),.string t] w fun e w'=>Vt w g fo nf fs t.data.toList e w':=by
 by_cases h16:nf=16
 . have t16:((nf:Int)==16)=true:=by rw[h16];rfl
   have Za:=H9 h16;clear h16 ho;go_enter func294,ntmps294;go_wp2;go_ret;exact .many Za.o rfl rfl
 . have t16:((nf:Int)==16)=false:=by rw[beq_eq_false_iff_ne];omega
   have Za:=H9 h16;have JV:=H9 (pO t w ht);unfold Fd.val at JV;have hlt:=World.block_lt_of_cell? w _ c3;clear h16;by_cases hc:(Fd.of t.data.toList).code=0
   . rw[hc] at JV;obtain⟨nm,hnm⟩:∃nm:ByteArray,(⟨(Fd.of t.data.toList).name.toArray⟩:ByteArray)=nm:=⟨_,rfl⟩;obtain⟨vl,hvl⟩:∃vl:ByteArray,(⟨(Fd.of t.data.toList).value.toArray⟩:ByteArray)=vl:=⟨_,rfl⟩;rw[hnm,hvl] at JV;have HXs:Hid (aB (Rq.iH fs)++[.string nm,.string vl]=aB (Rq.iH (fs++[((Fd.of t.data.toList).name,(Fd.of t.data.toList).value)]))):=by
      unfold Hid;rw[Rq.xU,mI,<-hnm,<-hvl];rfl
     have HC:=H9 hc;have hK:∀W,Below w.heap.size w W->W.cell? ⟨g,3,none⟩=some (.slice fo nf ak):=fun W hW=>(hW.cell hlt).trans c3;have hK2:∀W W3,Below w.heap.size w W->W.grownBy W3 (Value.slice fo nf ak).ownBlock->W3.cell? ⟨g,3,none⟩=some (.slice fo nf ak)∧W3.frozen? ⟨g,3,none⟩=false:=fun W W3 hW hG=>by
      rw[ay] at hG;have hb:W.heap[g]? = w.heap[g]?:=hW.block g hlt;refine⟨hG.cell (hK W hW) (fun e=>hne e.symm),?_⟩;rw[World.frozen?_of_block (a:=⟨g,3,none⟩) ((hG.block g (Nat.lt_of_lt_of_le hlt hW.size) (fun e=>hne e.symm)).trans hb)];exact f3
     have HK:=H9 hK;have TK:=H9 hK2
     have HO:=H9 ho;obtain⟨i0,hi0,hz0,hz1,hz2⟩:=info_parts l9;have Hi:=H9 hi0;have gQ:=H9 hz0;have gK:=H9 hz1;have gT:=H9 hz2
     have HN:Hid (nf+1<=maxLen∧(nf+1)*32<=140737488355328):=⟨by unfold maxLen;omega,by omega⟩;clear hi0 hz0 hz1 hz2 ho hK hK2 hc hnm hvl;go_enter func294,ntmps294;go_wp2_with fail
     refine JV.o.mono ?_;rintro e w1 ⟨rfl,hB⟩;have hB0:Below w.heap.size w (w1.alloc (.cells #[.string nm,.string vl] 111)):=hB.trans ((Below.refl _ _).alloc hB.size _);have hB1:Below w.heap.size w ((w1.alloc (.cells #[.string nm,.string vl] 111)).alloc (.cells #[.string nm,.string vl] 111)):=hB0.trans ((Below.refl _ _).alloc hB0.size _);have hB2:Below w.heap.size w ((w1.alloc (.cells #[.string nm,.string vl] 111)).alloc (.cells #[.string nm,.string vl] 111)).drew:=hB1.trans ⟨rfl,rfl,rfl,Nat.le_refl _,fun _ _=>rfl⟩;have k3:=HK.o _ hB0;have j3:=HK.o _ hB1;have HB2:=H9 hB2;have Vq:=H9 (aC.below HO.o hB2 (fun a e=>(HO.o.block a e).2));have Nj:Hid (∀j u,([.string nm,.string vl]:List Value)[j]? = some u->((w1.alloc (.cells #[.string nm,.string vl] 111)).alloc (.cells #[.string nm,.string vl] 111)).drew.cell? (Addr.add ⟨w1.heap.size+1,0,none⟩ j)=some u):=fun j u hu=>by
      rw[Addr.add_lit,Nat.zero_add];show((w1.alloc (.cells #[.string nm,.string vl] 111)).alloc (.cells #[.string nm,.string vl] 111)).cell? _=_;rw[World.cell?_alloc_at _ _ _ _ (by simp),List.getElem?_toArray];exact hu
     have HS:=H9 hB.size;clear hB hB0 hB1 hB2 c3 f3;go_wp2;go_region_law
      ((refine step_append_lies _ (by rfl) _ _ _ (by rfl) 0 111 i0 (.agg #[.string ⟨#[]⟩,.string ⟨#[]⟩]) 2 32 underlying66 Hi.o gQ.o gK.o gT.o (by rfl) (by decide) (.slice fo nf ak) nf _ (by rfl) Vq.o ⟨w1.heap.size+1,0,none⟩ 1 1 [.string nm,.string vl] (by rfl) (by rfl) Nj.o (fun u hu=>by simp at hu;rcases hu with rfl | rfl <;> rfl) (by decide) HN.o.1 HN.o.2 (Nat.zero_le _) (w1.heap.size+2) (by simp) ?_;intro g3 aI w3 hown3 hgrow dJ hlt3;have tZ:=H9 hgrow;have mF:=H9 hown3;have BN:=H9 dJ;have q3:=(TK.o _ _ HB2.o hgrow).1;have qf:=(TK.o _ _ HB2.o hgrow).2;clear hgrow hown3 dJ))
     all_goals
      go_wp2;go_ret;have hG:=tZ.o;have hA:=BN.o
      rw[ay] at hG hA;refine .ok Za.o HC.o w3 g3 aI rfl rfl (by rw[<-HXs.o];exact mF.o) ((Turns.of_below HB2.o).trans (Turns.bI (S:=fun k=>au fo=some k) hG (fun k e=>e)) (fun _ e _=>e)) ?_;rcases hA with e | e
      . exact Or.inl e
      . exact Or.inr (by have:=HS.o;omega)
   . have tc:(((Fd.of t.data.toList).code:Int)==0)=false:=by rw[beq_eq_false_iff_ne];omega
     have HC:=H9 hc;generalize hcc:(Fd.of t.data.toList).code=cc at *;clear hc ho;go_enter func294,ntmps294;go_wp2_with fail
     refine JV.o.mono ?_;rintro e w1 ⟨rfl,hB⟩;have TV:=H9 hcc;have zQ:=H9 (then_ hB ((Below.refl _ _).alloc (Nat.le_refl _) (.cells #[.string ⟨(Fd.of t.data.toList).name.toArray⟩,.string ⟨(Fd.of t.data.toList).value.toArray⟩] 111)));clear hcc hB;go_wp2;go_ret;exact .bad Za.o cc HC.o TV.o rfl zQ.o
inductive vM (w:World)(S So:Nat->Prop)(g gt:Nat)(m:List UInt8)(s:Fm.St)(tx:List UInt8)(t:Fm.Td)(e:Ending)(w':World):Prop
 | ok (he:e=.returned (.int .i64 0)) (h:qU w S So g gt m (Fm.line s tx).1 (Fm.tells t (Fm.line s tx).2) w')
 | fail (k:Nat) (hk:k≠0) (hN:Fm.line s tx=Fm.fails k) (he:e=.returned (.int .i64 (k:Int))) (h:Ii w S So g gt t w')
theorem Il {s:Fm.St}{p:Fm.Rm}(hp:Fm.part s.fields=.inr p)(h12:s.parts≠12):Fm.line s []=({ s with fields:=[],parts:=s.parts+1,place:=0,held:=2,ahead:=2 },[Fm.Ji p]):=by
 have:=Fm.KA (s:=s) hp h12;exact this
theorem Mf {s:Fm.St}{c:Nat}(hp:Fm.part s.fields=.inl c):Fm.line s []=Fm.fails c:=by
 unfold Fm.line;rw[if_neg (fun h=>h rfl),hp]
theorem Mg {s:Fm.St}{p:Fm.Rm}(hp:Fm.part s.fields=.inr p)(h12:s.parts=12):Fm.line s []=Fm.fails 8:=by
 unfold Fm.line;rw[if_neg (fun h=>h rfl),hp];simp only;rw[if_pos h12]
theorem Mh (w:World)(S So:Nat->Prop)(g gt:Nat)(m:List UInt8)(s:Fm.St)(t:Fm.Td)(h:dG w S g m s)(hl:Fm.live s)(h0:s.held=0)(hm:s.fields.length<=16)(hsh:∀f∈s.fields,f.1.length<=200∧f.2.length<=200)(hpt:s.parts<=12)(hO:gP w So gt t)(hd:∀k,S k->¬So k)(h2:m.take 2=[13,10])(h3:3<=m.length)(hL:m.length<=1000)(hes:t.es.length<=80000):
 Calls prog 295 #[.pointer (some ⟨g,0,none⟩),.pointer (some ⟨gt,0,none⟩)] w fun e w'=>vM w S So g gt m s [] t e w':=by
 have hP:=Pair.start h hO hd;cases hP.fm with
 | dead h2 me row=>exact absurd hl h2
 | live hl2 me gs gl p fo ak D row inn =>
   have hT1:Turns (fun k=>k=g) w (w.setCell ⟨g,3,none⟩ (.slice none 0 0)):=bR.set w g 3 _;have r1:=row.s3 none 0 0;have i0:lV w (fun k=>(S k∧k<w.heap.size)∧k≠g) m { s with fields:=[] } gs gl p none 0 D:=⟨inn.sk,inn.sO,inn.Ie,inn.ln,aC.nil _ _ _ _,fun a e=>(by cases e)⟩;have i1:=i0.turns hT1 (fun k e=>e.2);have hV:=inn.own.lQ.turns hT1 (fun a e=>(inn.fC a e).1.2);have hne:g≠gs:=fun e=>inn.sO.1.2 e.symm;have wO:=H9 (L8 w g fo s.fields.length ak row.c3 (row.fz 3));have Nk:=H9 (PY (Rq.iH s.fields) fo ak s.fields.length _ hV (Rq.kN _) (by omega) (fun q hq=>by
    unfold Rq.iH at hq;obtain⟨f,hf,rfl⟩:=List.mem_map.1 hq;have:=hsh f hf;refine⟨?_,?_⟩
    . show f.1.toArray.size<=_;rw[List.size_toArray];omega
    . show f.2.toArray.size<=_;rw[List.size_toArray];omega))
   rw[Rq.Jv] at Nk;have HP:=H9 hP;have HR1:=H9 r1;have HI1:=H9 i1;have HT1:=H9 hT1;have Sj:=H9 me;have WB:=H9 hl;have HH0:=H9 h0
   have hlt:=row.lt;have hgo:¬So g:=hd g me.1;have TU:=H9 hgo;have HM:Hid (m.take 2=[13,10]∧3<=m.length∧m.length<=1000):=⟨h2,h3,hL⟩;have TW:Hid (∀(W2:World),Below (w.setCell ⟨g,3,none⟩ (.slice none 0 0)).heap.size (w.setCell ⟨g,3,none⟩ (.slice none 0 0)) W2->Ii w S So g gt t W2):=fun W2 hb=>by
    have Wv:=(HP.o.td.turns HT1.o (fun k e e2=>by subst e2;exact TU.o e.1)).stay hb;exact .mk _ _ _ _ _ _ _ _ _ _ (HR1.o.stay hb) Wv (fun e=>TU.o e.1) (fun k e=>Or.inl e.1) ((HT1.o.mono (S':=fun k=>S k∨So k) (fun k e=>by subst e;exact Or.inl Sj.o.1)).trans (Turns.of_below hb) (fun _ e _=>e))
   clear hV inn i0 i1 r1 row hP h hO hd h0 hl hl2 me hT1 h2 h3 hL hgo hm hsh;cases hpp:Fm.part s.fields with
   | inl k =>
     have hk:=Fm.KC hpp;have HN:=H9 (Mf hpp);have HK:=H9 hk;rw[hpp] at Nk;unfold Fm.Fe at Nk;simp only at Nk;have tc:((k:Int) != 0)=true:=by rw[bne_iff_ne];omega
     clear hpp hk;go_enter func295,ntmps295;go_wp2_with fail
     refine wO.o.mono ?_;rintro e w1 ⟨rfl,hw⟩;subst hw;go_wp2_with fail
     refine Nk.o.mono ?_;rintro e w2 ⟨rfl,hb2⟩;have HF:=H9 (TW.o _ (then_ hb2 ((Below.refl _ _).alloc (Nat.le_refl _) (.cells #[.string ⟨#[]⟩,.string ⟨#[]⟩,.string ⟨#[]⟩,.slice none 0 0] 70))));clear hb2;go_wp2;go_ret;exact .fail k HK.o HN.o rfl HF.o
   | inr pr =>
     rw[hpp] at Nk;unfold Fm.Fe at Nk;simp only at Nk;by_cases h12:s.parts=12
     . have HN:=H9 (Mg hpp h12);have t12:((s.parts:Int)==12)=true:=by rw[h12];rfl
       clear hpp h12;go_enter func295,ntmps295;go_wp2_with fail
       refine wO.o.mono ?_;rintro e w1 ⟨rfl,hw⟩;subst hw;go_wp2_with fail
       refine Nk.o.mono ?_;rintro e w2 ⟨rfl,hb2⟩;have hb3:=then_ hb2 ((Below.refl _ _).alloc (Nat.le_refl _) (.cells #[.string ⟨pr.name.toArray⟩,.string ⟨pr.file.toArray⟩,.string ⟨pr.type.toArray⟩,.slice none 0 0] 70));have HF:=H9 (TW.o _ hb3);have c5:=(HR1.o.stay hb3).c5;clear hb2 hb3;go_wp2;go_ret;exact .fail 8 (by decide) HN.o rfl HF.o
     . have HN:=H9 (Il hpp h12);have t12:((s.parts:Int)==12)=false:=by rw[beq_eq_false_iff_ne];omega
       clear hpp;go_enter func295,ntmps295;go_wp2_with fail
       refine wO.o.mono ?_;rintro e w1 ⟨rfl,hw⟩;subst hw;go_wp2_with fail
       refine Nk.o.mono ?_;rintro e w2 ⟨rfl,hb2⟩;have hb3:=then_ hb2 ((Below.refl _ _).alloc (Nat.le_refl _) (.cells #[.string ⟨pr.name.toArray⟩,.string ⟨pr.file.toArray⟩,.string ⟨pr.type.toArray⟩,.slice none 0 0] 70));have hrow2:=heap_alloc_new w2 (.cells #[.string ⟨pr.name.toArray⟩,.string ⟨pr.file.toArray⟩,.string ⟨pr.type.toArray⟩,.slice none 0 0] 70);have hw2:w.heap.size<=w2.heap.size:=by have:=hb2.size;simpa using this
       go_upto_region 2 with fail
       generalize hW2:(w2.alloc (.cells #[.string ⟨pr.name.toArray⟩,.string ⟨pr.file.toArray⟩,.string ⟨pr.type.toArray⟩,.slice none 0 0] 70))=W2 at *;have r2:=HR1.o.stay hb3;have r3:=(r2.s5 ((s.parts:Int)+1)).s4 0;have jw:Turns (fun k=>k=g) W2 ((W2.setCell ⟨g,5,none⟩ (.int .i64 ((s.parts:Int)+1))).setCell ⟨g,4,none⟩ (.int .i64 0)):=(bR.set W2 g 5 _).trans (bR.set _ g 4 _) (fun _ e _=>e);have i3:=(HI1.o.stay hb3).turns jw (fun k e=>e.2);have c5:=r2.c5;have f5:=r2.fz 5
       have c4:=(r2.s5 ((s.parts:Int)+1)).c4;have f4:=(r2.s5 ((s.parts:Int)+1)).fz 4
       have XO:gI ((W2.setCell ⟨g,5,none⟩ (.int .i64 ((s.parts:Int)+1))).setCell ⟨g,4,none⟩ (.int .i64 0)) gs m 0 p:=by have:=i3.sk;rw[show({ s with fields:=[] }:Fm.St).held=0 from HH0.o] at this;exact this
       have RZ:=H9 (qz _ g gs m p _ r3.c0 r3.c1 (r3.fz 1) hne XO HM.o.1 HM.o.2.1 (by have:=HM.o.2.2;omega));have HB3:=H9 hb3;have XP:=H9 hrow2;have HR3:=H9 r3;have HT3:=H9 jw;have HI3:=H9 i3
       clear hb2 hb3 hrow2 r2 r3 jw i3 XO;go_wp2_with fail
       refine RZ.o.mono ?_;rintro e w5 ⟨w4,rfl,Cr,hS5,Ez⟩;obtain⟨r5,t5⟩:=dG.sought (s:={ s with fields:=[],parts:=s.parts+1,place:=0 }) (a2:=2) (S:=fun k=>S k∧k<w.heap.size) ⟨WB.o.1,by show(0:Nat)≠6;decide⟩ Sj.o HR3.o (HI3.o.as rfl rfl rfl) hS5 Ez;have e5:w4.setCell ⟨g,1,none⟩ (.int .i64 ((2:Nat):Int))=w5:=Cr.symm;rw[e5] at r5 t5;have hgs:gs<w.heap.size:=by have:=HI1.o.sk.lt;simpa using this
       have wz:∀{a b:World},Turns (fun k=>k=g) a b->Turns (fun k=>S k∧k<w.heap.size) a b:=fun hh=>hh.mono (fun k e=>by subst e;exact Sj.o);have TY:Turns (fun k=>S k∧k<w.heap.size) w w5:=(((wz HT1.o).trans (Turns.of_below HB3.o) (fun _ e _=>e)).trans (wz HT3.o) (fun _ e _=>e)).trans t5 (fun _ e _=>e);have FV:=HP.o.form r5 TY;have q1:=HT3.o.row XP.o (fun e=>by omega);have q2:w4.heap[w2.heap.size]? = _:=(Ez.block _ (Array.getElem?_eq_some_iff.1 q1).1 (fun e=>by injection e with e;omega)).trans q1;have q3:w5.heap[w2.heap.size]? = some (.cells #[.string ⟨pr.name.toArray⟩,.string ⟨pr.file.toArray⟩,.string ⟨pr.type.toArray⟩,.slice none 0 0] 70 (0,0)):=by
        rw[<-e5];exact(bR.set w4 g 1 _).row q2 (fun e=>by omega)
       have p0:w5.cell? ⟨w2.heap.size,0,none⟩=some (.string ⟨pr.name.toArray⟩):=cell_of_row w5 _ 0 _ _ _ q3;have p1:w5.cell? ⟨w2.heap.size,1,none⟩=some (.string ⟨pr.file.toArray⟩):=cell_of_row w5 _ 1 _ _ _ q3;have p2:w5.cell? ⟨w2.heap.size,2,none⟩=some (.string ⟨pr.type.toArray⟩):=cell_of_row w5 _ 2 _ _ _ q3;have p3:w5.cell? ⟨w2.heap.size,3,none⟩=some (.slice none 0 0):=cell_of_row w5 _ 3 _ _ _ q3;have LW:=H9 (p8 w5 _ gt t 5 ⟨pr.name.toArray⟩ ⟨pr.file.toArray⟩ ⟨pr.type.toArray⟩ 0 FV.td (by decide) (by omega));have Vy:=H9 FV;clear r5 t5 e5 TY FV q1 q2 q3 wz Cr hS5 Ez hgs;go_wp2_with fail
       refine LW.o.mono ?_;rintro e w6 ⟨rfl,vF,kD⟩;have HW:=H9 (Vy.o.told vF kD).1;clear vF kD;go_wp2;go_ret;refine .ok rfl ?_;rw[HN.o];exact HW.o
theorem Ii.then_ {w0 w w':World}{S So S1 Fb:Nat->Prop}{g gt:Nat}{t':Fm.Td}(hS1:∀k,S1 k->S k∨w0.heap.size<=k)(sP:∀k,Fb k->So k∨w0.heap.size<=k)(hT:Turns (fun k=>S k∨So k) w0 w)(h2:Ii w S1 Fb g gt t' w'):Ii w0 S So g gt t' w':=by
 obtain⟨Vs,sk,ln,ah,pl,pt,cd,fo,nf,ak,hR,hO2,hd2,PS,dx⟩:=h2;have hz:=hT.size;refine .mk Vs sk ln ah pl pt cd fo nf ak hR hO2 hd2 (fun k e=>?_) (hT.trans dx (fun i e hi=>?_))
 . rcases PS k e with e | e
   . exact sP k e
   . exact Or.inr (by omega)
 . rcases e with e | e
   . rcases hS1 i e with e | e
     . exact Or.inl e
     . omega
   . rcases sP i e with e | e
     . exact Or.inr e
     . omega
theorem vM.took {w0 w w':World}{S So S1 Fb:Nat->Prop}{g gt:Nat}{m:List UInt8}{s s1:Fm.St}{c:UInt8}{tx:List UInt8}{t:Fm.Td}{e:Ending}(hN:Fm.next m s c=Fm.line s1 tx)(hS1:∀k,S1 k->S k∨w0.heap.size<=k)(sP:∀k,Fb k->So k∨w0.heap.size<=k)(hT:Turns (fun k=>S k∨So k) w0 w)(h:vM w S1 Fb g gt m s1 tx t e w'):Sm w0 S So g gt m s c t e w':=by
 cases h with
 | ok he h=>exact .ok he (by rw[hN];exact qU.then_ hS1 sP hT h)
 | fail k hk hL he h=>exact .fail k hk (hN.trans hL) he (Ii.then_ hS1 sP hT h)
theorem zU (w:World)(S So:Nat->Prop)(g gt:Nat)(m:List UInt8)(s:Fm.St)(tx:List UInt8)(t:Fm.Td)(h:dG w S g m s)(hl:Fm.live s)(hm:s.fields.length<=16)(hO:gP w So gt t)(hd:∀k,S k->¬So k)(htx:tx≠[])(hz:tx.length<=200):
 Calls prog 294 #[.pointer (some ⟨g,2,none⟩),.string ⟨tx.toArray⟩] w fun e w'=>vM w S So g gt m s tx t e w':=by
 have hP:=Pair.start h hO hd;cases hP.fm with
 | dead h2 me row=>exact absurd hl h2
 | live hl2 me gs gl p fo ak D row inn =>
   have hgo:¬So g:=hd g me.1;refine(Ij w g fo s.fields.length ak s.fields ⟨tx.toArray⟩ row.c3 (row.fz 3) (fun e=>?_) inn.own hm (by show tx.toArray.size<=_;rw[List.size_toArray];omega)).mono ?_
   . cases fo with
     | none=>cases e
     | some a=>injection e with e;exact(inn.fC a rfl).1.2 e
   . intro e w' hF;have hL:Fm.line s tx=if s.fields.length=16 then Fm.fails 8 else if (Fd.of tx).code≠0 then Fm.fails (Fd.of tx).code else ({ s with fields:=s.fields++[((Fd.of tx).name,(Fd.of tx).value)] },[]):=by
      unfold Fm.line;rw[if_pos htx]
     cases hF with
     | many h16 he hw =>
       rw[if_pos h16] at hL;subst hw;exact .fail 8 (by decide) hL he (.mk _ _ _ _ _ _ _ _ _ _ row hP.td (fun e=>hgo e.1) (fun k e=>Or.inl e.1) (Turns.refl _ _))
     | bad h16 c hc hd2 he hB =>
       have hd2:(Fd.of tx).code=c:=hd2;rw[if_neg h16,hd2,if_pos hc] at hL;exact .fail c hc hL he (.mk _ _ _ _ _ _ _ _ _ _ (row.stay hB) (hP.td.stay hB) (fun e=>hgo e.1) (fun k e=>Or.inl e.1) (Turns.of_below hB))
     | ok h16 hd2 w3 g3 aI he hw hO3 jw hat =>
       have hd2:(Fd.of tx).code=0:=hd2;rw[if_neg h16,hd2,if_neg (fun e=>e rfl)] at hL;refine .ok he ?_;rw[hL];subst hw;have hfo:∀k,au fo=some k->∃a,fo=some a∧a.block=k:=fun k e=>by
        cases fo with
        | none=>cases e
        | some a=>injection e with e;exact⟨a,rfl,e⟩
       have hz3:=jw.size;have wP:Turns (fun k=>k=g) w3 (w3.setCell ⟨g,3,none⟩ (.slice (some ⟨g3,0,none⟩) (s.fields.length+1) aI)):=bR.set w3 g 3 _;have hlt:=row.lt;have r3:=(row.turns jw (fun e=>by obtain⟨a,ea,eb⟩:=hfo g e;exact(inn.fC a ea).1.2 eb)).s3 (some ⟨g3,0,none⟩) (s.fields.length+1) aI;have hg3:g3<w3.heap.size:=(hO3.block _ rfl).2;have aam:g3≠g:=fun e=>by
        rcases hat with e2 | e2
        . obtain⟨a,ea,eb⟩:=hfo g3 e2;exact(inn.fC a ea).1.2 (eb.trans e)
        . omega
       have hlen:(s.fields++[((Fd.of tx).name,(Fd.of tx).value)]).length=s.fields.length+1:=by rw[List.length_append];rfl
       have i3:lV w3 (fun k=>(S k∧k<w.heap.size∨w.heap.size<=k∧k<w3.heap.size)∧k≠g) m { s with fields:=s.fields++[((Fd.of tx).name,(Fd.of tx).value)] } gs gl p (some ⟨g3,0,none⟩) aI (fun k=>D k∧k<w.heap.size):=by
        refine⟨inn.sk.turns jw ?_ ?_ ?_,⟨⟨Or.inl inn.sO.1.1,inn.sO.1.2⟩,⟨Or.inl inn.sO.2.1.1,inn.sO.2.1.2⟩,fun a e=>⟨Or.inl (inn.sO.2.2 a e).1,(inn.sO.2.2 a e).2⟩⟩,⟨fun e=>inn.Ie.1 e.1,fun e=>inn.Ie.2.1 e.1,fun a e e2=>inn.Ie.2.2 a e e2.1⟩,?_,?_,?_⟩
        . intro e;obtain⟨a,ea,eb⟩:=hfo _ e;exact(inn.fs a ea).1 eb
        . intro e;obtain⟨a,ea,eb⟩:=hfo _ e;exact(inn.fs a ea).2.1 eb
        . intro b hb e;obtain⟨a,ea,eb⟩:=hfo _ e;exact(inn.fs a ea).2.2 b hb eb
        . have:=(inn.ln.mono (S':=fun k=>((S k∧k<w.heap.size∨w.heap.size<=k∧k<w3.heap.size)∧k≠g)∧(D k∧k<w.heap.size)) (fun k hk e=>⟨⟨Or.inl e.1.1,e.1.2⟩,e.2,hk⟩));exact this.turns jw (fun k e e2=>by obtain⟨a,ea,eb⟩:=hfo _ e2;exact(inn.fC a ea).2 (eb▸e.2.1))
        . show aC w3 0 111 2 (some ⟨g3,0,none⟩) aI (s.fields++[((Fd.of tx).name,(Fd.of tx).value)]).length _;rw[hlen];exact hO3
        . intro a e;injection e with e;subst e;refine⟨⟨?_,aam⟩,fun e2=>?_⟩
          . rcases hat with e2 | e2
            . obtain⟨a,ea,eb⟩:=hfo g3 e2;exact Or.inl (eb▸(inn.fC a ea).1.1)
            . exact Or.inr ⟨e2,hg3⟩
          . rcases hat with e3 | e3
            . obtain⟨a,ea,eb⟩:=hfo g3 e3;exact(inn.fC a ea).2 (eb▸e2.1)
            . have h9:g3<w.heap.size:=e2.2;omega
       have i4:=i3.turns wP (fun k e=>e.2);have r4:bR (w3.setCell ⟨g,3,none⟩ (.slice (some ⟨g3,0,none⟩) (s.fields.length+1) aI)) g (.pointer (some ⟨gs,0,none⟩)) (s.ahead:Int) (.pointer (some ⟨gl,0,none⟩)) (some ⟨g3,0,none⟩) (s.fields++[((Fd.of tx).name,(Fd.of tx).value)]).length aI (s.place:Int) (s.parts:Int) (s.code:Int):=by rw[hlen];exact r3
       have XQ:∀k,au fo=some k->S k∧k<w.heap.size:=fun k e=>by obtain⟨a,ea,eb⟩:=hfo k e;exact eb▸(inn.fC a ea).1.1
       refine .mk (fun k=>S k∧k<w.heap.size∨w.heap.size<=k∧k<w3.heap.size) (fun k=>So k∧k<w.heap.size) (.live (s:={ s with fields:=s.fields++[((Fd.of tx).name,(Fd.of tx).value)] }) hl (Or.inl me) gs gl p _ aI _ r4 i4) ((hP.td.turns jw (fun k e e2=>hd k (XQ k e2).1 e.1)).turns wP (fun k e e2=>by subst e2;exact hgo e.1)) (fun k e e2=>?_) (fun k e=>?_) (fun k e=>Or.inl e.1) ?_
       . rcases e with e | e
         . exact hd k e.1 e2.1
         . have:=e2.2;omega
       . rcases e with e | e
         . exact Or.inl e.1
         . exact Or.inr e.1
       . exact(jw.mono (S':=fun k=>S k∨So k) (fun k e=>Or.inl (XQ k e).1)).trans (wP.mono (S':=fun k=>S k∨So k) (fun k e=>by subst e;exact Or.inl me.1)) (fun _ e _=>e)
theorem dG.lined {w w1:World}{S:Nat->Prop}{g gs gl:Nat}{m:List UInt8}{s:Fm.St}{p:Ia}{fo:Option Addr}{ak:Nat}{D:Nat->Prop}{ln2:Ln.St}(hl:Fm.live s)(me:S g)(hSz:∀k,S k->k<w.heap.size)(row:bR w g (.pointer (some ⟨gs,0,none⟩)) (s.ahead:Int) (.pointer (some ⟨gl,0,none⟩)) fo s.fields.length ak (s.place:Int) (s.parts:Int) (s.code:Int))(inn:lV w (fun k=>S k∧k≠g) m s gs gl p fo ak D)
 (hL:aJ w1 (av (fun k=>(S k∧k≠g)∧D k) w) gl ln2) (hT:Turns (fun k=>(S k∧k≠g)∧D k) w w1):dG w1 (fun k=>S k∨w.heap.size<=k∧k<w1.heap.size) g m { s with ln:=ln2 }:=by
 have hlt:=row.lt;refine .live hl (Or.inl me) gs gl p fo ak (fun k=>D k∧k<w.heap.size∨w.heap.size<=k) (row.turns hT (fun e=>e.1.2 rfl)) ⟨inn.sk.turns hT (fun e=>inn.Ie.1 e.2) (fun e=>inn.Ie.2.1 e.2) (fun a e e2=>inn.Ie.2.2 a e e2.2),⟨⟨Or.inl inn.sO.1.1,inn.sO.1.2⟩,⟨Or.inl inn.sO.2.1.1,inn.sO.2.1.2⟩,fun a e=>⟨Or.inl (inn.sO.2.2 a e).1,(inn.sO.2.2 a e).2⟩⟩,⟨?_,?_,?_⟩,hL.mono (fun k hk e=>?_),inn.own.turns hT (fun a e e2=>(inn.fC a e).2 e2.2),fun a e=>⟨⟨Or.inl (inn.fC a e).1.1,(inn.fC a e).1.2⟩,?_⟩⟩
 . intro e;rcases e with e | e
   . exact inn.Ie.1 e.1
   . have:=hSz _ inn.sO.1.1;omega
 . intro e;rcases e with e | e
   . exact inn.Ie.2.1 e.1
   . have:=hSz _ inn.sO.2.1.1;omega
 . intro a ea e;rcases e with e | e
   . exact inn.Ie.2.2 a ea e.1
   . have:=hSz _ (inn.sO.2.2 a ea).1;omega
 . rcases e with e | e
   . exact⟨⟨Or.inl e.1.1,e.1.2⟩,Or.inl ⟨e.2,hSz k e.1.1⟩⟩
   . exact⟨⟨Or.inr ⟨e,hk⟩,by omega⟩,Or.inr e⟩
 . intro e2;rcases e2 with e2 | e2
   . exact(inn.fC a e).2 e2.1
   . have:=hSz _ (inn.fC a e).1.1;omega
theorem Cy (w:World)(S So:Nat->Prop)(g gt:Nat)(m:List UInt8)(s:Fm.St)(c:UInt8)(t:Fm.Td)(h:dG w S g m s)(hl:Fm.live s)(hp:s.place=5)(hG:Fm.Good m s)(hO:gP w So gt t)(hd:∀k,S k->¬So k)(h2:m.take 2=[13,10])(h3:3<=m.length)(hL:m.length<=1000)(hes:t.es.length<=80000):
 Calls prog 269 #[.pointer (some ⟨g,0,none⟩),.pointer (some ⟨gt,0,none⟩),.int .u8 c.toNat] w fun e w'=>Sm w S So g gt m s c t e w':=by
 have hP:=Pair.start h hO hd;have hN:=Fm.Kv m hp hl.1 c;cases hP.fm with
 | dead h2 me row=>exact absurd hl h2
 | live hl2 me gs gl p fo ak D row inn =>
   have HF:=H9 (jq w _ gl s.ln c inn.ln hG.ln.short);unfold Ln.fed at HF;have c2:=row.c2;have HP:=H9 hP;have HN:=H9 hN;have zP:=H9 row
   have hgo:¬So g:=hd g me.1;have TU:=H9 hgo;have XR:∀w1,aJ w1 (av (fun k=>((S k∧k<w.heap.size)∧k≠g)∧D k) w) gl (Ln.next s.ln c)->Turns (fun k=>((S k∧k<w.heap.size)∧k≠g)∧D k) w w1->dG w1 (fun k=>(S k∧k<w.heap.size)∨w.heap.size<=k∧k<w1.heap.size) g m { s with ln:=Ln.next s.ln c }∧gP w1 (fun k=>So k∧k<w.heap.size) gt t∧Turns (fun k=>S k∨So k) w w1:=fun w1 hL1 hT1 =>
    ⟨dG.lined hl me (fun k e=>e.2) row inn hL1 hT1,hP.td.turns hT1 (fun k e e2=>hd k e2.1.1.1 e.1),hT1.mono (fun k e=>Or.inl e.1.1.1)⟩
   have Sq:=H9 XR;have HD:=H9 hd;have hapart:∀w1:World,∀k,((S k∧k<w.heap.size)∨w.heap.size<=k∧k<w1.heap.size)->¬(So k∧k<w.heap.size):=fun w1 k e e2=>by
    rcases e with e | e
    . exact hd k e.1 e2.1
    . omega
   have FU:=H9 hapart;have QX:=H9 hG;have WB:=H9 hl;have Z8:=H9 hp;have HM:Hid (m.take 2=[13,10]∧3<=m.length∧m.length<=1000):=⟨h2,h3,hL⟩
   clear XR hapart inn row hP h hO hd hl2 me hN hgo h2 h3 hL;by_cases hc:(Ln.next s.ln c).code=0
   . have tc:(((Ln.next s.ln c).code:Int) != 0)=false:=by rw[hc];rfl
     cases he:Ln.ends s.ln c with
     | false =>
       rw[he] at HF HN;rw[if_neg (fun e=>e hc),if_neg (by simp)] at HN;have HC:=H9 hc;generalize hcd:((Ln.next s.ln c).code:Int)=cd at HF tc;have ZN:Hid (cd=0):=by unfold Hid;rw[<-hcd,hc];rfl
       clear hc hcd he;generalize (⟨(Ln.text s.ln c).toArray⟩:ByteArray)=tx at *;go_enter func269,ntmps269;go_wp2_with fail
       refine HF.o.mono ?_;rintro e w1 ⟨rfl,hL1,hT1⟩;have HA:=H9 (Sq.o w1 hL1 hT1);clear hL1 hT1;go_wp2;go_ret;refine .ok (by rw[ZN.o];rfl) ?_;rw[HN.o];exact .mk _ _ HA.o.1 HA.o.2.1 (FU.o w1) (fun k e=>e.imp (fun e=>e.1) (fun e=>e.1)) (fun k e=>Or.inl e.1) HA.o.2.2
     | true =>
       rw[he] at HF HN;rw[if_neg (fun e=>e hc),if_pos rfl] at HN;have hsh:=(Rq.mU (c:=c) hG.ln).1;have sZ:=H9 (Fm.xG he);rw[hc] at HF;clear tc;by_cases htx:Ln.text s.ln c=[]
       . have HB:Hid (∀w1,dG w1 (fun k=>(S k∧k<w.heap.size)∨w.heap.size<=k∧k<w1.heap.size) g m { s with ln:=Ln.next s.ln c }->gP w1 (fun k=>So k∧k<w.heap.size) gt t->Calls prog 295 #[.pointer (some ⟨g,0,none⟩),.pointer (some ⟨gt,0,none⟩)] w1 fun e w'=>vM w1 (fun k=>(S k∧k<w.heap.size)∨w.heap.size<=k∧k<w1.heap.size) (fun k=>So k∧k<w.heap.size) g gt m { s with ln:=Ln.next s.ln c } [] t e w'):=fun w1 hF1 jP =>
          Mh w1 _ _ g gt m { s with ln:=Ln.next s.ln c } t hF1 WB.o (QX.o.idle (by rw[Z8.o];decide)) QX.o.many QX.o.short QX.o.parts jP (FU.o w1) HM.o.1 HM.o.2.1 HM.o.2.2 hes
         rw[htx] at HF HN;clear htx hc he hG hl hp;go_enter func269,ntmps269;go_wp2_with fail
         refine HF.o.mono ?_;rintro e w1 ⟨rfl,hL1,hT1⟩;have HA:=H9 (Sq.o w1 hL1 hT1);clear hL1 hT1;go_wp2_with fail
         refine(HB.o w1 HA.o.1 HA.o.2.1).mono ?_;intro e w2 PZ;have HK:=H9 (vM.took (w0:=w) HN.o (S:=S) (So:=So) (fun k e=>e.imp (fun e=>e.1) (fun e=>e.1)) (fun k e=>Or.inl e.1) HA.o.2.2 PZ);obtain⟨v,hv⟩:∃v,e=.returned v:=by cases PZ with
          | ok he h=>exact⟨_,he⟩
          | fail k hk hN he h=>exact⟨_,he⟩
         clear PZ;subst hv;go_wp2;go_ret;exact HK.o
       . have ttx:((⟨(Ln.text s.ln c).toArray⟩:ByteArray).toList==[])=false:=by rw[beq_eq_false_iff_ne,Lib.toList_data];exact htx
         have HB:Hid (∀w1,dG w1 (fun k=>(S k∧k<w.heap.size)∨w.heap.size<=k∧k<w1.heap.size) g m { s with ln:=Ln.next s.ln c }->gP w1 (fun k=>So k∧k<w.heap.size) gt t->Calls prog 294 #[.pointer (some ⟨g,2,none⟩),.string ⟨(Ln.text s.ln c).toArray⟩] w1 fun e w'=>vM w1 (fun k=>(S k∧k<w.heap.size)∨w.heap.size<=k∧k<w1.heap.size) (fun k=>So k∧k<w.heap.size) g gt m { s with ln:=Ln.next s.ln c } (Ln.text s.ln c) t e w'):=fun w1 hF1 jP =>
          zU w1 _ _ g gt m { s with ln:=Ln.next s.ln c } (Ln.text s.ln c) t hF1 WB.o QX.o.many jP (FU.o w1) htx hsh
         clear htx hc he hG hl hp hsh;generalize (⟨(Ln.text s.ln c).toArray⟩:ByteArray)=tx at *;go_enter func269,ntmps269;go_wp2_with fail
         refine HF.o.mono ?_;rintro e w1 ⟨rfl,hL1,hT1⟩;have HA:=H9 (Sq.o w1 hL1 hT1);clear hL1 hT1;go_wp2_with fail
         refine(HB.o w1 HA.o.1 HA.o.2.1).mono ?_;intro e w2 PZ;have HK:=H9 (vM.took (w0:=w) HN.o (S:=S) (So:=So) (fun k e=>e.imp (fun e=>e.1) (fun e=>e.1)) (fun k e=>Or.inl e.1) HA.o.2.2 PZ);obtain⟨v,hv⟩:∃v,e=.returned v:=by cases PZ with
          | ok he h=>exact⟨_,he⟩
          | fail k hk hN he h=>exact⟨_,he⟩
         clear PZ;subst hv;go_wp2;go_ret;exact HK.o
   . have tc:(((Ln.next s.ln c).code:Int) != 0)=true:=by rw[bne_iff_ne];omega
     rw[if_pos hc] at HN;have HC:=H9 hc;generalize hcd:(Ln.next s.ln c).code=cd at *;clear hc;generalize (⟨(Ln.text s.ln c).toArray⟩:ByteArray)=tx at *;generalize Ln.ends s.ln c=en at *;go_enter func269,ntmps269;go_wp2_with fail
     refine HF.o.mono ?_;rintro e w1 ⟨rfl,hL1,hT1⟩;have HA:=H9 (Sq.o w1 hL1 hT1);have HR1:=H9 (zP.o.turns hT1 (fun e=>e.1.2 rfl));clear hL1 hT1 hcd;go_wp2;go_ret;exact .fail cd HC.o HN.o rfl (.mk _ _ _ _ _ _ _ _ _ _ HR1.o HA.o.2.1 (fun e=>TU.o e.1) (fun k e=>Or.inl e.1) HA.o.2.2)
structure Mi (m:List UInt8)(s:Fm.St):Prop where
 good:Fm.Good m s
 two:m.take 2=[13,10]
 long:5<=m.length
 short:m.length<=100
 ahead:s.ahead<=2
theorem Mi.fold {m:List UInt8}{s:Fm.St}(h:Mi m s)(l:List UInt8):Mi m (Fm.fold m s l):=⟨h.good.fold (by have:=h.long;omega) l,h.two,h.long,h.short,Fm.xI m l s h.ahead⟩
theorem P7 (w:World)(S So:Nat->Prop)(g gt:Nat)(m:List UInt8)(s:Fm.St)(c:UInt8)(t:Fm.Td)(h:dG w S g m s)(hl:Fm.live s)(hG:Mi m s)(hO:gP w So gt t)(hd:∀k,S k->¬So k)(hes:t.es.length<=80000)(hbs:t.bs.length<=80000):
 Calls prog 233 #[.pointer (some ⟨g,0,none⟩),.pointer (some ⟨gt,0,none⟩),.int .u8 c.toNat] w fun e w'=>Sm w S So g gt m s c t e w':=by
 have c4:=h.cells.1;have h3:3<=m.length:=by have:=hG.long;omega
 have h1:m.length<=1000:=by have:=hG.short;omega
 by_cases hp0:s.place=0
 . have HT:=H9 (Cx w S So g gt m s c t h hl hp0 hG.good hO hd h1 hG.ahead hes hbs);have t0:((s.place:Int)==0)=true:=by rw[hp0];rfl
   clear hp0 h hl hG hO hd;go_enter func233,ntmps233;go_wp2_with fail
   refine HT.o.mono ?_;rintro e w1 ⟨rfl,hW⟩;have HW:=H9 hW;clear hW;go_wp2;go_ret;exact .ok rfl HW.o
 . have t0:((s.place:Int)==0)=false:=by rw[beq_eq_false_iff_ne];omega
   by_cases Zb:s.place=5
   . have HT:=H9 (Cy w S So g gt m s c t h hl Zb hG.good hO hd hG.two h3 h1 hes);have t5:((s.place:Int)==5)=true:=by rw[Zb];rfl
     clear Zb hp0 h hl hG hO hd;go_enter func233,ntmps233;go_wp2_with fail
     refine HT.o.mono ?_;intro e w1 hW;have HW:=H9 hW;obtain⟨v,hv⟩:∃v,e=.returned v:=by cases hW with
      | ok he h=>exact⟨_,he⟩
      | fail k hk hN he h=>exact⟨_,he⟩
     clear hW;subst hv;go_wp2;go_ret;exact HW.o
   . have t5:((s.place:Int)==5)=false:=by rw[beq_eq_false_iff_ne];omega
     have hp6:=hG.good.place;have hn6:=hl.2;have HT:=H9 (qV w S So g gt m s c t h hl (by omega) hO hd hes);clear Zb hp0 h hl hG hO hd hp6 hn6;go_enter func233,ntmps233;go_wp2_with fail
     refine HT.o.mono ?_;intro e w1 hW;have HW:=H9 hW;obtain⟨v,hv⟩:∃v,e=.returned v:=by cases hW with
      | ok he h=>exact⟨_,he⟩
      | fail k hk hN he h=>exact⟨_,he⟩
     clear hW;subst hv;go_wp2;go_ret;exact HW.o
structure vN (w:World)(S:Nat->Prop)(g:Nat)(m:List UInt8)(s:Fm.St)(l:List UInt8)(k:Nat)(wr:World):Prop where
 two:∃S' So',dG wr S' g m (Fm.fold m s (l.take k))∧gP wr So' w.heap.size (Fm.tells Fm.zJ (Fm.outs m s (l.take k)))∧(∀i,S' i->¬So' i)∧(∀i,S' i->S i∨w.heap.size<=i)∧(∀i,So' i->w.heap.size<=i)
 turns:Turns S w wr
inductive Cz (w:World)(S:Nat->Prop)(g:Nat)(m:List UInt8)(s:Fm.St)(l:List UInt8)(e:Ending)(w':World):Prop
 | mk (ao:Option Addr) (cap n:Nat) (S' So':Nat->Prop) (he:e=.returned (.slice ao n cap)) (hn:n=(fP (Fm.outs m s l)).length) (hR:dG w' S' g m (Fm.fold m s l)) (hO:jy w' So' 72 ao cap (fP (Fm.outs m s l))) (hd:∀i,S' i->¬So' i) (hS:∀i,S' i->S i∨w.heap.size<=i) (hSo:∀i,So' i->w.heap.size<=i) (hT:Turns S w w')
theorem vN.step {w wr w':World}{S S' So':Nat->Prop}{g:Nat}{m:List UInt8}{s:Fm.St}{l:List UInt8}{k:Nat}(hk:k<l.length)(hS:∀i,S' i->S i∨w.heap.size<=i)(hSo:∀i,So' i->w.heap.size<=i)(hT:Turns S w wr)
 (h:qU wr S' So' g w.heap.size m (Fm.next m (Fm.fold m s (l.take k)) l[k]).1 (Fm.tells (Fm.tells Fm.zJ (Fm.outs m s (l.take k))) (Fm.next m (Fm.fold m s (l.take k)) l[k]).2) w'):vN w S g m s l (k+1) w':=by
 obtain⟨S2,Vs,hF,hO,hd,hS2,PS,dx⟩:=h;have ht:l.take (k+1)=l.take k++[l[k]]:=List.take_succ_eq_append_getElem hk;have hz:=hT.size;refine⟨⟨S2,Vs,by rw[ht,Fm.tT];exact hF,by rw[ht,Fm.tV,Fm.rE];exact hO,hd,fun i e=>?_,fun i e=>?_⟩,hT.trans dx (fun i e hi=>?_)⟩
 . rcases hS2 i e with e | e
   . exact hS i e
   . exact Or.inr (by omega)
 . rcases PS i e with e | e
   . exact hSo i e
   . omega
 . rcases e with e | e
   . rcases hS i e with e | e
     . exact e
     . omega
   . have:=hSo i e;omega
theorem Mj {w w1 w2:World}{S So Fb:Nat->Prop}{g gt:Nat}{m:List UInt8}{t:Fm.Td}{k:Nat}(hk:k≠0)(me:S g)
 (hd1:¬Fb g) (sP:∀i,Fb i->So i∨w.heap.size<=i) (hT1:Turns (fun i=>S i∨So i) w w1)
 {w7:World} (Nc:bR w7 g (.pointer none) 0 (.pointer none) none 0 0 0 0 (k:Int)) (vH:Turns (fun i=>i=g) w1 w7) (hg:g<w.heap.size) (hO2:gP w2 (av (fun i=>Fb i∧i<w1.heap.size) w7) gt (Fm.tell t (Fm.NY k))) (dx:Turns (fun i=>Fb i∧i<w1.heap.size) w7 w2) :
 qU w S So g gt m (Fm.fails k).1 (Fm.tells t (Fm.fails k).2) w2:=by
 have hz1:=hT1.size;have hz7:=vH.size;refine .mk (fun i=>i=g) _ (.dead (Fm.DU hk) rfl (Nc.turns dx (fun e=>hd1 e.1))) hO2 (fun i e e2=>?_) (fun i e=>by subst e;exact Or.inl me) (fun i e=>?_) ((hT1.trans vH (fun i e _=>by subst e;exact Or.inl me)).trans dx (fun i e hi=>?_))
 . subst e;rcases e2 with e2 | e2
   . exact hd1 e2.1
   . omega
 . rcases e with e | e
   . exact sP i e.1
   . exact Or.inr (by omega)
 . rcases sP i e.1 with e | e
   . exact Or.inr e
   . omega
theorem vN.done {w wr w':World}{S S' So':Nat->Prop}{g:Nat}{m:List UInt8}{s:Fm.St}{l:List UInt8}{k:Nat}{ao bo:Option Addr}{cap bc:Nat}(hF:dG wr S' g m (Fm.fold m s (l.take k)))(hd:∀i,S' i->¬So' i)(hS:∀i,S' i->S i∨w.heap.size<=i)(hSo:∀i,So' i->w.heap.size<=i)(hT:Turns S w wr)(ho:Fm.outs m s l=Fm.outs m s (l.take k))(hf:Fm.fold m s l=Fm.fold m s (l.take k))
 (hR:dw w' (av (fun i=>So' i∧i<wr.heap.size) wr) w.heap.size ao cap bo bc ⟨Fm.flush (Fm.tells Fm.zJ (Fm.outs m s (l.take k))),[]⟩) (dx:Turns (fun i=>So' i∧i<wr.heap.size) wr w'):Cz w S g m s l (.returned (.slice ao (Fm.flush (Fm.tells Fm.zJ (Fm.outs m s (l.take k)))).length cap)) w':=by
 have hfl:=(Fm.uS _ (Fm.qI m (l.take k) s)).1;have hz:=hT.size;refine .mk ao cap _ (fun i=>S' i∧i<wr.heap.size) (fun i=>av (fun i=>So' i∧i<wr.heap.size) wr i) rfl (by rw[hfl,ho]) (by rw[hf];exact(hF.mono (fun i hi e=>⟨e,hi⟩)).turns dx (fun i e e2=>hd i e.1 e2.1)) (by rw[ho,<-hfl];exact hR.all.mono (fun i _ e=>e.1.1)) (fun i e e2=>?_) (fun i e=>hS i e.1) (fun i e=>?_) (hT.trans dx (fun i e hi=>by have:=hSo i e.1;omega))
 . rcases e2 with e2 | e2
   . exact hd i e.1 e2.1
   . have:=e.2;omega
 . rcases e with e | e
   . exact hSo i e.1
   . omega
theorem CB (w:World)(S:Nat->Prop)(g:Nat)(m:List UInt8)(s:Fm.St)(l:List UInt8)(bo:Option Addr)(aj n:Nat)(h:dG w S g m s)(hG:Mi m s)(hB:aU w bo aj l)(kH:l≠[]->∀a,bo=some a->¬S a.block)(hn:l.length=n)(hl:n<=20000):
 Calls prog 196 #[.pointer (some ⟨g,0,none⟩),.slice bo n aj] w fun e w'=>Cz w S g m s l e w':=by
 subst hn;have hlt:=h.lt;have hb0:Below w.heap.size w (w.alloc (.cells #[.slice none 0 0,.slice none 0 0] 268)):=(Below.refl _ _).alloc (Nat.le_refl _) _;have P8:vN w S g m s l 0 (w.alloc (.cells #[.slice none 0 0,.slice none 0 0] 268)):=⟨⟨fun k=>S k∧k<w.heap.size,fun k=>w.heap.size<=k,(h.mono (fun k hk e=>⟨e,hk⟩)).stay hb0,⟨_,_,_,_,dw.made w⟩,fun i e e2=>by have:=e.2;omega,fun i e=>Or.inl e.1,fun i e=>e⟩,Turns.of_below hb0⟩;have sZ:=H9 P8;have HB:=H9 hB;have HG:=H9 hG;have Q5:=H9 kH
 have Sj:=H9 h.me;have U4:=H9 hlt;clear hB h hG kH hb0 P8;go_enter func196,ntmps196;go_wp2;go_loopw [11] (fun vi wr=>∃k:Nat,k<=l.length∧vi=.int .i64 k∧vN w S g m s l k wr) (fun vi _=>l.length-(intOf vi).toNat)
 case atStart=>exact⟨0,Nat.zero_le _,rfl,sZ.o⟩
 case round =>
  clear sZ;obtain⟨k,hk,rfl,hF⟩:=hrel;obtain⟨S',So',hR',xY,hd',hS',zV⟩:=hF.two;have hT':=hF.turns;have htk:(l.take k).length<=20000:=by rw[List.length_take];omega
  have iw:=Fm.KD (by have:=HG.o.long;omega) HG.o.good (l.take k);have hh:=HG.o.good.held;have hsh:=HG.o.short;have hO2:gP wr (fun i=>So' i∧i<wr.heap.size) w.heap.size (Fm.tells Fm.zJ (Fm.outs m s (l.take k))):=xY.mono (fun i hi e=>⟨e,hi⟩);have Sv:=H9 (Bp wr _ w.heap.size _ hO2 (by omega));have JX:Hid (∀(w':World) (ao bo:Option Addr) (cap bc:Nat),Fm.outs m s l=Fm.outs m s (l.take k)->Fm.fold m s l=Fm.fold m s (l.take k)->dw w' (av (fun i=>So' i∧i<wr.heap.size) wr) w.heap.size ao cap bo bc ⟨Fm.flush (Fm.tells Fm.zJ (Fm.outs m s (l.take k))),[]⟩->Turns (fun i=>So' i∧i<wr.heap.size) wr w'->Cz w S g m s l (.returned (.slice ao (Fm.flush (Fm.tells Fm.zJ (Fm.outs m s (l.take k)))).length cap)) w'):=fun w' ao bo cap bc ho hf hR dx=>vN.done hR' hd' hS' zV hT' ho hf hR dx;by_cases hlt2:k<l.length
  . obtain⟨bb,oo,rfl,_⟩:=HB.o.lit (by omega);have hne:l≠[]:=by intro e;subst e;simp at hlt2
    obtain⟨b2,o2,he2,hc2⟩:=(HB.o.turns hT' (fun a e=>Q5.o hne a e)).lit (by omega);injection he2 with he2;injection he2 with hb2 ho2;subst hb2;subst ho2;have ck:=hc2 k hlt2;have hlt':(k:Int)<l.length:=by omega
    have hcap:=HB.o.1;obtain⟨c4,c5,c6,fz⟩:=hR'.cells;by_cases hlv:Fm.live (Fm.fold m s (l.take k))
    . have hG':=HG.o.fold (l.take k);have pQ:=H9 (P7 wr S' So' g w.heap.size m _ l[k] _ hR' hlv hG' xY hd' (by omega) (by omega));have Bq:Hid (∀w',qU wr S' So' g w.heap.size m (Fm.next m (Fm.fold m s (l.take k)) l[k]).1 (Fm.tells (Fm.tells Fm.zJ (Fm.outs m s (l.take k))) (Fm.next m (Fm.fold m s (l.take k)) l[k]).2) w'->vN w S g m s l (k+1) w'):=fun w' hw=>vN.step hlt2 hS' zV hT' hw;have t0:(((Fm.fold m s (l.take k)).code:Int) != 0)=false:=by rw[hlv.1];rfl
      have t6:(((Fm.fold m s (l.take k)).place:Int)==6)=false:=by rw[beq_eq_false_iff_ne];have:=hlv.2;omega
      have aan:=H9 hR'.me;have aao:=H9 hR'.lt
      have hes:(Fm.tells Fm.zJ (Fm.outs m s (l.take k))).es.length<=80000:=by omega
      have HEs:=H9 hes;generalize Fm.tells Fm.zJ (Fm.outs m s (l.take k))=td at *;generalize Fm.fold m s (l.take k)=st at *;generalize l[k]=cb at *;clear hR' xY hd' hS' zV iw hO2 hc2 hlv hF Sv JX hG' hes;go_wp2_with fail
      refine pQ.o.mono ?_;intro e w1 Im;cases Im with
      | ok he hW =>
        subst he;have HW:=H9 (Bq.o w1 hW);clear hW;go_wp2;go_roundw
        case rel=>exact⟨k+1,by omega,by go_num,HW.o⟩
        case measure=>simp[intOf];omega
      | fail kk hkk hN he hF =>
        subst he;have tk:((kk:Int) != 0)=true:=by rw[bne_iff_ne];omega
        obtain⟨Fb,sk,ln,ah,pl,pt,cd,fo,nf,ak,mH,jP,hd1,sP,hT1⟩:=hF;have q0:=mH.c0;have q1:=mH.c1;have q2:=mH.c2;have q3:=mH.c3;have q4:=mH.c4;have q5:=mH.c5;have q6:=mH.c6
        have f0:=mH.fz 0;have f1:=mH.fz 1;have f2:=mH.fz 2;have f3:=mH.fz 3;have f4:=mH.fz 4;have f5:=mH.fz 5;have f6:=mH.fz 6
        obtain⟨Nc,vH⟩:=mH.anew 0 (kk:Int);have XT:=(jP.mono (S':=fun i=>Fb i∧i<w1.heap.size) (fun i hi e=>⟨e,hi⟩)).turns vH (fun i e e2=>by subst e2;exact hd1 e.1);have LW:=H9 (p8 _ _ w.heap.size td 4 ⟨#[]⟩ ⟨#[]⟩ ⟨#[]⟩ (kk:Int) XT (by decide) (by have:=HEs.o;omega));have TL:=H9 Nc;have HT7:=H9 vH;have HK:Hid (kk≠0∧¬Fb g∧(∀i,Fb i->So' i∨wr.heap.size<=i)):=⟨hkk,hd1,sP⟩;have HT1:=H9 hT1;have HN:=H9 hN
        clear mH Nc vH XT hkk hd1 sP hT1 jP hN;go_wp2_with fail
        refine LW.o.mono ?_;rintro e w2 ⟨rfl,hO2,dx⟩;have hW:=Mj (m:=m) HK.o.1 aan.o HK.o.2.1 HK.o.2.2 HT1.o TL.o HT7.o aao.o hO2 dx;have HW:=H9 (Bq.o w2 (by rw[HN.o];exact hW));clear hO2 dx hW;go_wp2;go_roundw
        case rel=>exact⟨k+1,by omega,by go_num,HW.o⟩
        case measure=>simp[intOf];omega
    . have hdr:=Fm.l6 (m:=m) (l.drop k) hlv;have HDn:Hid (Fm.outs m s l=Fm.outs m s (l.take k)∧Fm.fold m s l=Fm.fold m s (l.take k)):=by
       constructor
       . conv=>lhs;rw[<-List.take_append_drop k l,Fm.fq,hdr.1,List.append_nil]
       . conv=>lhs;rw[<-List.take_append_drop k l,Fm.eZ,hdr.2]
      have WB:=H9 hlv;generalize Fm.flush (Fm.tells Fm.zJ (Fm.outs m s (l.take k)))=fl at *;generalize hfo:Fm.fold m s (l.take k)=st at *;generalize l[k]=cb at *;clear hR' xY hd' hS' zV iw hO2 hc2 hlv hdr hF;by_cases hc0:st.code=0
      . have t0:((st.code:Int) != 0)=false:=by rw[hc0];rfl
        have h6:st.place=6:=by
         rcases Nat.decEq st.place 6 with e | e
         . exact absurd ⟨hc0,e⟩ WB.o
         . exact e
        have t6:((st.place:Int)==6)=true:=by rw[h6];rfl
        clear hc0 h6;go_wp2_with fail
        refine Sv.o.mono ?_;rintro e w2 ⟨dN,cap2,uh,bc2,rfl,hR2,dx⟩;have HR2:=H9 (JX.o w2 dN uh cap2 bc2 HDn.o.1 HDn.o.2 hR2 dx);clear hR2 dx;go_wp2;go_ret;exact HR2.o
      . have t0:((st.code:Int) != 0)=true:=by rw[bne_iff_ne];omega
        clear hc0;go_wp2_with fail
        refine Sv.o.mono ?_;rintro e w2 ⟨dN,cap2,uh,bc2,rfl,hR2,dx⟩;have HR2:=H9 (JX.o w2 dN uh cap2 bc2 HDn.o.1 HDn.o.2 hR2 dx);clear hR2 dx;go_wp2;go_ret;exact HR2.o
  . obtain rfl:k=l.length:=by omega
    have HDn:Hid (Fm.outs m s l=Fm.outs m s (l.take l.length)∧Fm.fold m s l=Fm.fold m s (l.take l.length)):=by
     unfold Hid;rw[List.take_length];exact⟨rfl,rfl⟩
    generalize Fm.flush (Fm.tells Fm.zJ (Fm.outs m s (l.take l.length)))=fl at *;clear hR' xY hd' hS' zV iw hO2 hF;go_wp2_with fail
    refine Sv.o.mono ?_;rintro e w2 ⟨dN,cap2,uh,bc2,rfl,hR2,dx⟩;have HR2:=H9 (JX.o w2 dN uh cap2 bc2 HDn.o.1 HDn.o.2 hR2 dx);clear hR2 dx;go_wp2;go_ret;exact HR2.o
inductive Sw (w:World)(l:List UInt8)(e:Ending)(w':World):Prop
 | no (h:Fm.fF l=false) (he:e=.returned (.tuple #[.pointer none,.int .i64 5])) (hb:Below w.heap.size w w')
 | yes (h:Fm.fF l=true) (g:Nat) (he:e=.returned (.tuple #[.pointer (some ⟨g,0,none⟩),.int .i64 0])) (hF:dG w' (fun k=>w.heap.size<=k) g (Fm.mark l) Fm.start) (hb:Below w.heap.size w w')
theorem Fg (s:ByteArray)(w:World):
 Calls prog 195 #[.string s] w fun e w'=>Sw w s.data.toList e w':=by
 have HM:=H9 (Qa s w);have hl:=Ch.bC s;cases hm:Fm.fF s.data.toList with
 | false =>
   rw[hm] at HM;have HR:=H9 hm;clear hm;go_enter func195,ntmps195;go_wp2_with fail
   refine HM.o.mono ?_;rintro e w1 ⟨rfl,hb1⟩;have HB1:=H9 hb1;clear hb1;go_wp2;go_ret2;exact .no HR.o rfl HB1.o
 | true =>
   rw[hm] at HM;have HR:=H9 hm;obtain⟨hne,Ub⟩:=sQ hm;rw[hl] at Ub;obtain⟨hm2,Wm,XU⟩:=Fm.xJ s.data.toList hne (by rw[hl];exact Ub);have hx:((⟨#[13,10,45,45]⟩:ByteArray)++s).data.toList=Fm.mark s.data.toList:=by rw[Ch.data_append];rfl
   have hxs:((⟨#[13,10,45,45]⟩:ByteArray)++s).size=(Fm.mark s.data.toList).length:=Ch.size_of_list hx;clear hm hne;go_enter func195,ntmps195;go_wp2_with fail
   refine HM.o.mono ?_;rintro e w1 ⟨rfl,hb1⟩;obtain⟨cap,w2,oD,hB2,U5⟩:=Gr (P:=prog) w1 ((⟨#[13,10,45,45]⟩:ByteArray)++s) 9 31 5 (by rw[hxs];unfold maxLen;omega) underlying9 underlying31 underlying5;rw[hx] at U5;rw[hxs] at oD;have Nj:=H9 (P9 (Fm.mark s.data.toList) _ cap w2 U5.qc (by omega));have HB2:=H9 (then_ hb1 hB2);have Vo:Hid ((Fm.mark s.data.toList).take 2=[13,10]∧5<=(Fm.mark s.data.toList).length∧(Fm.mark s.data.toList).length<=74):=⟨hm2,Wm,XU⟩;clear hx hxs U5 hB2 hb1 hm2 Wm XU HM;have hst:(s.size:Int)<=70:=by omega
   generalize hmk:Fm.mark s.data.toList=mk at *;go_wp2_with fail
   refine Nj.o.mono ?_;rintro e w3 ⟨gs,p,rfl,XO,hg1,hg2,hg3,hb3⟩;have WC:=H9 XO;have HG:Hid (w2.heap.size<=gs∧w2.heap.size<=p.gb∧∀a,p.mo=some a->w2.heap.size<=a.block):=⟨hg1,hg2,hg3⟩;have HB3:=H9 (then_ HB2.o hb3)
   have BM:=H9 hb3.size;clear XO hg1 hg2 hg3 hb3 Nj oD;go_wp2_with fail
   refine(mY w3).mono ?_;rintro e w4 ⟨rfl,hL,hb4⟩;have bQ:Below w4.heap.size w4 (w4.alloc (.cells #[.pointer (some ⟨gs,0,none⟩),.int .i64 0,.pointer (some ⟨w3.heap.size,0,none⟩),.slice none 0 0,.int .i64 0,.int .i64 0,.int .i64 0] 266)):=(Below.refl _ _).alloc (Nat.le_refl _) _;have hrow:bR (w4.alloc (.cells #[.pointer (some ⟨gs,0,none⟩),.int .i64 0,.pointer (some ⟨w3.heap.size,0,none⟩),.slice none 0 0,.int .i64 0,.int .i64 0,.int .i64 0] 266)) w4.heap.size (.pointer (some ⟨gs,0,none⟩)) 0 (.pointer (some ⟨w3.heap.size,0,none⟩)) none 0 0 0 0 0:=⟨heap_alloc_new w4 _⟩;have hz2:=HB2.o.size;have hz3:=BM.o;have hz4:=hb4.size;have aap:gs<w3.heap.size:=WC.o.lt;have aaq:p.gb<w3.heap.size:=WC.o.2.2.lt;have VB:lV (w4.alloc (.cells #[.pointer (some ⟨gs,0,none⟩),.int .i64 0,.pointer (some ⟨w3.heap.size,0,none⟩),.slice none 0 0,.int .i64 0,.int .i64 0,.int .i64 0] 266)) (fun k=>w.heap.size<=k∧k≠w4.heap.size) mk ⟨0,0,0,Ln.start,[],0,0⟩ gs w3.heap.size p none 0 (fun k=>w3.heap.size<=k):=by
    refine⟨(WC.o.stay hb4).stay bQ,⟨⟨by have:=HG.o.1;omega,by omega⟩,⟨by have:=HG.o.2.1;omega,by omega⟩,fun a e=>⟨by have:=HG.o.2.2 a e;omega,by have:=(WC.o.2.1.block a e).2;omega⟩⟩,⟨by omega,by omega,fun a e=>by have:=(WC.o.2.1.block a e).2;omega⟩,?_,aC.nil _ _ _ _,fun a e=>(by cases e)⟩;have:=hL.mono (S':=fun k=>(w.heap.size<=k∧k≠w4.heap.size)∧w3.heap.size<=k) (fun k hk e=>⟨⟨by omega,by omega⟩,e⟩);exact this.turns (Turns.of_below (S:=fun _=>False) bQ) (fun _ _ e=>e)
   have XV:gI (w4.alloc (.cells #[.pointer (some ⟨gs,0,none⟩),.int .i64 0,.pointer (some ⟨w3.heap.size,0,none⟩),.slice none 0 0,.int .i64 0,.int .i64 0,.int .i64 0] 266)) gs mk 0 p:=VB.sk;have RZ:=H9 (qz _ w4.heap.size gs mk p _ hrow.c0 hrow.c1 (hrow.fz 1) (by omega) XV Vo.o.1 (by have:=Vo.o.2.1;omega) (by have:=Vo.o.2.2;omega));have zP:=H9 hrow;have aar:=H9 VB
   have jr:=H9 (then_ (then_ HB3.o hb4) bQ);have Hz:Hid (w.heap.size<=w4.heap.size):=by show _<=_;omega
   clear hrow VB XV bQ hL hb4 hz2 hz3 hz4 aap aaq WC HG;go_wp2_with fail
   refine RZ.o.mono ?_;rintro e w6 ⟨w5,rfl,WE,hS6,Wq⟩;obtain⟨r6,t6⟩:=dG.sought (s:=⟨0,0,0,Ln.start,[],0,0⟩) (a2:=2) (S:=fun k=>w.heap.size<=k) ⟨rfl,by decide⟩ Hz.o zP.o aar.o hS6 Wq;have e6:w5.setCell ⟨w4.heap.size,1,none⟩ (.int .i64 ((2:Nat):Int))=w6:=WE.symm;rw[e6] at r6 t6;have VD:=H9 r6;have qj:=H9 (jr.o.trans (t6.below (fun k e=>e) jr.o.size));have aas:=H9 hmk;clear r6 t6 e6 WE hS6 Wq hmk;go_wp2;go_ret2;refine .yes HR.o w4.heap.size rfl ?_ qj.o;rw[aas.o];exact VD.o
theorem cu.VE (W:World)(cs:Array Value)(n t:Nat)(fr:Nat×Nat){k:Nat}(hk:W.heap.size=k):cu (W.alloc (.cells cs t fr)) (some ⟨k,0,none⟩) n n cs.toList:=by
 subst hk;exact cu.made W cs n t fr
def Uc (w:World)(D:Nat->Prop)(ao:Option Addr)(cap:Nat)(es:List aZ):Prop :=
 es.length<=cap∧(0<es.length->∃b o,ao=some ⟨b,o,none⟩∧∀j (hj:j<es.length),∃s,WT w b (o+j*12) es[j] s∧eX w D s.bo s.aj es[j].bytes∧eX w D s.po s.bS es[j].aH)
theorem iA.XW {w:World}{S:Nat->Prop}{tE:Nat}{ao:Option Addr}{cap:Nat}{es:List aZ}(h:iA w S tE ao cap es):Uc w S ao cap es:=by
 obtain⟨ps,rfl,hO,_,hI⟩:=h;have hv:=hO.lQ;refine⟨hv.1,fun h0=>?_⟩;obtain⟨b,o,rfl,hc⟩:=hv.lit (by rw[iK];rw[List.length_map] at h0;omega);refine⟨b,o,rfl,fun j hj=>?_⟩;have hj':j<ps.length:=by simpa using hj
 refine⟨ps[j].2,?_⟩;rw[List.getElem_map];have hin:=hI _ (List.getElem_mem hj');refine⟨⟨fun i u hi=>?_,hin.fields.is,hin.bytes.is,hin.aH.is⟩,hin.bytes.mono (fun _ _ e=>e.1),hin.aH.mono (fun _ _ e=>e.1)⟩;have hl:i<12:=(List.getElem?_eq_some_iff.1 hi).1;rw[<-lZ _ j hj' i hl] at hi;have:=hc _ _ hi;rw[Nat.add_assoc];exact this
theorem Io (w:World)(D:Nat->Prop)(ao:Option Addr)(cap n:Nat)(es:List aZ)(hE:Uc w D ao cap es)(hn:es.length=n)(hl:n<=100000)(hL:Fm.rH es):
 Calls prog 198 #[.slice ao n cap] w fun e w'=>∃aD cap' m,e=.returned (.slice aD m cap')∧jL w D (Fm.jF es) aD cap' m w':=by
 subst hn;have HE:=H9 hE;have HL:=H9 hL
 obtain⟨i0,hi0,hz0,hz1,hz2⟩:=info_parts Ls;have Hi:=H9 hi0;have gQ:=H9 hz0;have gK:=H9 hz1;have gT:=H9 hz2
 clear hE hL hi0 hz0 hz1 hz2;go_enter func198,ntmps198;go_wp2;go_loopw [3,8] (fun vo vi wr=>∃(i m:Nat) (aD:Option Addr) (cap':Nat),i<=es.length∧vi=.int .i64 i∧vo=.slice aD m cap'∧jL w D (Fm.jF (es.take i)) aD cap' m wr) (fun _ vi _=>es.length-(intOf vi).toNat)
 case atStart=>exact⟨0,0,none,0,Nat.zero_le _,rfl,rfl,jL.start w D⟩
 case round =>
  obtain⟨i,m,aD,cap',hi,rfl,rfl,hP⟩:=hrel;have HP:=H9 hP;have hml:m<=100000:=by have h1:=hP.len;have h2:=Fm.uX (es.take i);rw[List.length_take] at h2;omega
  clear hP;by_cases hlt:i<es.length
  . have hlt':(i:Int)<es.length:=by omega
    obtain⟨b,o,rfl,hEs⟩:=HE.o.2 (by omega);obtain⟨s,hE,hD1,hD2⟩:=hEs i hlt;have hcap:=HE.o.1;have hlead:=fun h2=>Fm.AO _ _ rfl (HL.o.at_ hlt h2);have pQ:Hid (Fm.jF (es.take (i+1))=Fm.laid (Fm.jF (es.take i)) es[i]):=by
     unfold Hid;rw[List.take_succ_eq_append_getElem hlt,Fm.AL]
    clear hEs;generalize es[i]=e at *;have hcl:∀j u,(e.cells s)[j]? = some u->wr.cell? ⟨b,o+i*12+j,none⟩=some u:=fun j u hu=>(HP.o.below.cell (World.block_lt_of_cell? w _ (hE.at_ j u hu))).trans (hE.at_ j u hu);have c0:wr.cell? ⟨b,o+i*12,none⟩=some (.int .i64 e.kind):=hcl 0 _ rfl;have c1:wr.cell? ⟨b,o+i*12+1,none⟩=some (.string e.method):=hcl 1 _ rfl;have c2:wr.cell? ⟨b,o+i*12+2,none⟩=some (.string e.target):=hcl 2 _ rfl;have c3:wr.cell? ⟨b,o+i*12+3,none⟩=some (.int .i64 e.minor):=hcl 3 _ rfl;have c4:wr.cell? ⟨b,o+i*12+4,none⟩=some (.slice s.fo e.fields.length s.ak):=hcl 4 _ rfl;have c5:wr.cell? ⟨b,o+i*12+5,none⟩=some (.int .i64 e.length):=hcl 5 _ rfl;have c6:wr.cell? ⟨b,o+i*12+6,none⟩=some (.slice s.bo e.bytes.length s.aj):=hcl 6 _ rfl;have c7:wr.cell? ⟨b,o+i*12+7,none⟩=some (.string e.dX):=hcl 7 _ rfl;have c8:wr.cell? ⟨b,o+i*12+8,none⟩=some (.string e.dO):=hcl 8 _ rfl;have c9:wr.cell? ⟨b,o+i*12+9,none⟩=some (.string e.ptype):=hcl 9 _ rfl;have c10:wr.cell? ⟨b,o+i*12+10,none⟩=some (.slice s.po e.aH.length s.bS):=hcl 10 _ rfl;have c11:wr.cell? ⟨b,o+i*12+11,none⟩=some (.int .i64 e.code):=hcl 11 _ rfl;have HBy:Hid (eX w D s.bo s.aj e.bytes∧eX w D s.po s.bS e.aH):=⟨hD1,hD2⟩;have bQ:Below wr.heap.size wr (wr.alloc (.cells #[.int .i64 e.kind,.string e.method,.string e.target,.int .i64 e.minor,.slice s.fo e.fields.length s.ak,.int .i64 e.length,.slice s.bo e.bytes.length s.aj,.string e.dX,.string e.dO,.string e.ptype,.slice s.po e.aH.length s.bS,.int .i64 e.code] 72)):=(Below.refl _ _).alloc (Nat.le_refl _) _;have VF:=H9 (HP.o.stay bQ);clear hcl hE bQ hD1 hD2;generalize e.fields.length=nfl at *;obtain⟨nb,hnb⟩:∃nb,e.bytes.length=nb:=⟨_,rfl⟩;obtain⟨Zc,VG⟩:∃Zc,e.aH.length=Zc:=⟨_,rfl⟩;rw[hnb] at c6 VF;rw[VG] at c10 VF;have UZ:=H9 hnb;have aat:=H9 VG
    clear hnb VG;by_cases h5:e.kind=5
    . have t5:(e.kind==5)=true:=beq_iff_eq.2 h5;have hld:Fm.laid (Fm.jF (es.take i)) e=Fm.jF (es.take i)++[⟨e.dX,e.dO,e.ptype,e.aH⟩]:=by unfold Fm.laid;rw[if_pos h5]
      obtain⟨xs,hO,hpu⟩:=(VF.o.stay ((Below.refl _ _).alloc (Nat.le_refl _) (.cells #[.string e.dX,.string e.dO,.string e.ptype,.slice s.po Zc s.bS] 70))).push;have HO:=H9 hO;have HPu:=H9 hpu;have XY:=H9 (pQ.o.trans hld)
      have sV:Hid (Lu ⟨e.dX,e.dO,e.ptype,e.aH⟩ ⟨s.po,s.bS⟩=[.string e.dX,.string e.dO,.string e.ptype,.slice s.po Zc s.bS]):=by unfold Hid Lu;rw[aat.o]
      have wm:Hid (w.heap.size<=wr.heap.size):=HP.o.below.size;clear h5 hld hO hpu hlead pQ;generalize e.kind=ek at *;go_wp2_with (at_builtin;refine aK rfl (.tmp 16) (.tmp 19) 187 rfl w.heap.size 70 i0 (.agg #[.string ⟨#[]⟩,.string ⟨#[]⟩,.string ⟨#[]⟩,.slice none 0 0]) 4 72 underlying187 Hi.o gQ.o gK.o gT.o rfl (by decide) rfl HO.o rfl (cu.VE _ _ 1 _ _ (by simp)) rfl (fun u hu=>by simp at hu;rcases hu with rfl | rfl | rfl | rfl <;> rfl) (by omega) (by omega) (by rw[World.size_alloc,World.size_alloc];have:=wm.o;omega) ?_;intro a3 c3 w3 hO3 hG3 dJ;have CX:=H9 (HPu.o a3 c3 w3 ⟨e.dX,e.dO,e.ptype,e.aH⟩ ⟨s.po,s.bS⟩ HBy.o.2 (by rw[sV.o];exact hO3) hG3);clear hO3 hG3 dJ)
      go_roundw
      case rel=>exact⟨i+1,m+1,a3,c3,by omega,by go_num,rfl,by rw[XY.o];exact CX.o⟩
      case measure=>simp[intOf];omega
    . have t5:(e.kind==5)=false:=beq_eq_false_iff_ne.2 h5;by_cases h2:e.kind=2
      . have t2:(e.kind==2)=true:=beq_iff_eq.2 h2;have hpos:=hlead h2;obtain⟨qs,p,hqp⟩:∃qs p,Fm.jF (es.take i)=qs++[p]:=by
         rcases List.eq_nil_or_concat (Fm.jF (es.take i)) with e0 | ⟨q,x,e0⟩
         . rw[e0] at hpos;simp at hpos
         . exact⟨q,x,by rw[e0,List.concat_eq_append]⟩
        have hld:Fm.laid (Fm.jF (es.take i)) e=qs++[{ p with bytes:=e.bytes }]:=by
         unfold Fm.laid;rw[if_neg h5,if_pos h2,hqp,List.dropLast_concat,List.getLast?_append];rfl
        have XY:=H9 (pQ.o.trans hld);rw[hqp] at VF;obtain⟨k,rfl⟩:∃k,m=k+1:=⟨m-1,by have h1:=VF.o.len;rw[List.length_append] at h1;simp at h1;omega⟩;obtain⟨g,rfl,⟨v,cv⟩,fv,hc1,hby⟩:=VF.o.bytes;have CX:=H9 (hby e.bytes s.bo s.aj nb HBy.o.1 UZ.o.symm);have m0:(0:Int)<=(k:Int):=by omega
        have m1:(k:Int)<(k:Int)+1:=by omega
        have m2:((k+1:Nat):Int)-1=(k:Int):=by omega
        clear h5 h2 hld hlead pQ hpos hqp hby
        generalize e.kind=ek at *;go_wp2;go_roundw
        case rel=>exact⟨i+1,k+1,some ⟨g,0,none⟩,cap',by omega,by go_num,rfl,by rw[XY.o];exact CX.o⟩
        case measure=>simp[intOf];omega
      . have t2:(e.kind==2)=false:=beq_eq_false_iff_ne.2 h2;have hld:Fm.laid (Fm.jF (es.take i)) e=Fm.jF (es.take i):=by unfold Fm.laid;rw[if_neg h5,if_neg h2]
        have XY:=H9 (pQ.o.trans hld);clear h5 h2 hld hlead pQ;generalize e.kind=ek at *;go_wp2;go_roundw
        case rel=>exact⟨i+1,m,aD,cap',by omega,by go_num,rfl,by rw[XY.o];exact VF.o⟩
        case measure=>simp[intOf];omega
  . obtain rfl:i=es.length:=by omega
    go_wp2;go_ret;refine⟨aD,cap',m,rfl,?_⟩;have:=HP.o;rw[List.take_length] at this;exact this
inductive Sy (w:World)(s l:List UInt8)(e:Ending)(w':World):Prop
 | no (c:Nat) (hc:c≠0) (h:Fm.fF s=false∧c=5∨Fm.fF s=true∧Fm.close (Fm.fold (Fm.mark s) Fm.start l)=c) (he:e=.returned (.tuple #[.slice none 0 0,.int .i64 (c:Int)])) (hb:Below w.heap.size w w')
 | yes (hm:Fm.fF s=true) (h:Fm.close (Fm.fold (Fm.mark s) Fm.start l)=0) (w1:World) (hz:w.heap.size<=w1.heap.size) (ao:Option Addr) (cap n:Nat) (he:e=.returned (.tuple #[.slice ao n cap,.int .i64 0])) (hP:jL w1 (fun k=>w.heap.size<=k) (Fm.jF (fP (Fm.outs (Fm.mark s) Fm.start l))) ao cap n w') (hb:Below w.heap.size w w')
theorem oU {s:List UInt8}(h:Fm.fF s=true):Mi (Fm.mark s) Fm.start:=by
 obtain⟨h1,h2⟩:=sQ h;obtain⟨a,b,c⟩:=Fm.xJ s h1 h2;exact⟨Fm.Good.start (by omega),a,b,by omega,Nat.le_refl _⟩
theorem Qb (s:ByteArray)(l:List UInt8)(bo:Option Addr)(aj n:Nat)(w:World)(hB:aU w bo aj l)(hn:l.length=n)(hl:n<=20000):
 Calls prog 149 #[.string s,.slice bo n aj] w fun e w'=>Sy w s.data.toList l e w':=by
 have Nj:=H9 (Fg s w);have HB:=H9 hB;have HN:=H9 hn
 clear hB hn;go_enter func149,ntmps149;go_wp2_with fail
 refine Nj.o.mono ?_;intro e w1 hF;cases hF with
 | no hm he hb =>
   subst he;have HM:=H9 hm;have zQ:=H9 hb
   clear hm hb;go_wp2;go_ret2;exact .no 5 (by decide) (Or.inl ⟨HM.o,rfl⟩) rfl zQ.o
 | yes hm g he hF hb =>
   subst he;have hz:=hb.size;have HM:=H9 hm;have zQ:=H9 hb
   have kH:l≠[]->∀a,bo=some a->¬w.heap.size<=a.block:=fun hne a ea=>by
    subst ea;have hp:0<l.length:=List.length_pos_iff.2 hne;have:=World.block_lt_of_cell? w _ (HB.o.cell 0 hp);rw[add_block] at this;omega
   have oV:=H9 (CB w1 _ g (Fm.mark s.data.toList) Fm.start l bo aj n hF (oU hm) (HB.o.stay hb) kH HN.o hl);clear hm hF hb hz kH;go_wp2_with fail
   refine oV.o.mono ?_;rintro e w2 ⟨ao,cap,k,S',So',he,hk,hR,hO,hd,hS,hSo,hT⟩;subst he;have HB2:=H9 (zQ.o.trans (hT.below (B:=w.heap.size) (fun k e=>e) zQ.o.size));have sV:=H9 (L6 w2 S' g _ _ hR);have iw:=Fm.iO (by have:=(oU HM.o).long;omega) l (oU HM.o).good;have hjl:=mP (Fm.outs (Fm.mark s.data.toList) Fm.start l);have hk4:k<=40000:=by have:=HN.o;omega
   have Vi:=H9 (Io w2 (fun k=>w.heap.size<=k) ao cap k _ (hO.all.mono (fun i _ e=>Nat.le_trans zQ.o.size (hSo i e))).XW hk.symm (by omega) (Fm.Ol _ _));clear hk hR hO hd hS hSo hT iw hjl;generalize hcc:Fm.close (Fm.fold (Fm.mark s.data.toList) Fm.start l)=cc at *;have TV:=H9 hcc;clear hcc;go_wp2_with fail
   refine sV.o.mono ?_;rintro e w3 ⟨rfl,hw⟩;subst hw;by_cases hc:cc=0
   . have tc:((cc:Int) != 0)=false:=by rw[hc];rfl
     have HC:=H9 hc;clear hc;go_wp2_with fail
     refine Vi.o.mono ?_;rintro e w4 ⟨aD,cap',m,rfl,hP⟩;have HP:=H9 hP;clear hP;go_wp2;go_ret2;exact .yes HM.o (TV.o.trans HC.o) w3 HB2.o.size aD cap' m rfl HP.o (then_ HB2.o HP.o.below)
   . have tc:((cc:Int) != 0)=true:=by rw[bne_iff_ne];omega
     have HC:=H9 hc;clear hc;go_wp2;go_ret2;exact .no cc HC.o (Or.inr ⟨HM.o,TV.o⟩) rfl HB2.o
end Go.Proofs.YtjmndjmhjleabaaGreatDoor