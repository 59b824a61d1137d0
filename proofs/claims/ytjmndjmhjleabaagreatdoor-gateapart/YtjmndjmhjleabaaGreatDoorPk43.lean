/- Small texts, one behind the other: GaA, SqH, StB, SpN, SqI, SqJ, StC, StD, StE, StF, FmD, FmE, FmF, FmG, FmH, FmI, FmJ, RqCln, RqBkA, RfReqA, RfReqR, RfReqBd, RfReqN. -/
import Derived.Test.YtjmndjmhjleabaaGreatDoorAl
import Derived.Test.YtjmndjmhjleabaaGreatDoorAm
import Derived.Test.YtjmndjmhjleabaaGreatDoorPk11
import Derived.Test.YtjmndjmhjleabaaGreatDoorPk16
import Derived.Test.YtjmndjmhjleabaaGreatDoorRqA
import Derived.Test.YtjmndjmhjleabaaGreatDoorPk39
import Derived.Test.YtjmndjmhjleabaaGreatDoorPk40
import Derived.Test.YtjmndjmhjleabaaGreatDoorPk5
import Derived.Test.YtjmndjmhjleabaaGreatDoorPk23
import Derived.Deep.AppendLies
import Derived.Deep.DeepCutAuto
import Derived.Test.YtjmndjmhjleabaaGreatDoorPk12
import Derived.Test.YtjmndjmhjleabaaGreatDoorPk37
import Derived.Test.YtjmndjmhjleabaaGreatDoorPk24
import Derived.Test.YtjmndjmhjleabaaGreatDoorPk15
import Derived.Laws.OwnMore
import Derived.Deep.RegionHeld3
import Derived.Test.YtjmndjmhjleabaaGreatDoorFmC
import Derived.Test.YtjmndjmhjleabaaGreatDoorPk14
import Derived.Test.YtjmndjmhjleabaaGreatDoorPk31
import Derived.Deep.RegionLaw
import Derived.Test.YtjmndjmhjleabaaGreatDoorPk38
import Derived.Test.YtjmndjmhjleabaaGreatDoorPk26
import Derived.Test.YtjmndjmhjleabaaGreatDoorPk10
import Derived.Test.YtjmndjmhjleabaaGreatDoorPk25
import Derived.Test.YtjmndjmhjleabaaGreatDoorPk8
import Derived.Test.YtjmndjmhjleabaaGreatDoorPk22
import Derived.Test.YtjmndjmhjleabaaGreatDoorPk18
set_option maxHeartbeats 6000000
set_option maxRecDepth 100000
open Go.Proofs.Tryz
namespace Go.Proofs.YtjmndjmhjleabaaGreatDoor
open Go.RowKit
structure R8 where
 gp:Nat
 fo:ak
 gM:Nat
 bo:ak
 gK:Nat
def Zj (c:Gt.Cn)(x:R8):List Value:=[.pointer (some ⟨x.gp,0,none⟩),.string ⟨c.hd.method.toArray⟩,.string ⟨c.hd.target.toArray⟩,.int .i64 (c.hd.minor:Int),.slice x.fo c.hd.fields.length x.gM,.int .i64 c.hd.length,.slice x.bo c.body.length x.gK]
def Qu (gs:Nat)(v:Nat->List Value):List Value:=.pointer (some ⟨gs,0,none⟩)::(v 0++(v 1++(v 2++v 3)))
def Ei (c:Nat->Gt.Cn)(x:Nat->R8):Nat->List Value:=fun k=>Zj (c k) (x k)
def upd {α:Type}(f:Nat->α)(k:Nat)(a:α):Nat->α:=fun i=>if i=k then a else f i
theorem iQ {α:Type}(f:Nat->α)(k:Nat)(a:α):upd f k a k=a:=if_pos rfl
theorem upd_ne {α:Type}(f:Nat->α){k i:Nat}(a:α)(h:i≠k):upd f k a i=f i:=if_neg h
theorem upd_same {α:Type}(f:Nat->α)(k:Nat):upd f k (f k)=f:=by
 funext i;unfold upd;split
 . next h=>rw[h]
 . rfl
theorem qH {α:Type}(f:Nat->α)(k:Nat)(a b:α):upd (upd f k a) k b=upd f k b:=by
 funext i;unfold upd;split <;> rfl
theorem seven {l:List Value}(h:l.length=7):∃a0 a1 a2 a3 a4 a5 a6,l=[a0,a1,a2,a3,a4,a5,a6]:=by
 match l,h with
 | [a0,a1,a2,a3,a4,a5,a6],_=>exact⟨a0,a1,a2,a3,a4,a5,a6,rfl⟩
theorem abI (gs:Nat)(v:Nat->List Value)(hv:∀k,k<4->(v k).length=7){k:Nat}(hk:k<4){j:Nat}(hj:j<7):(Qu gs v).toArray[1+k*7+j]? = (v k)[j]?:=by
 obtain⟨p0,p1,p2,p3,p4,p5,p6,hp⟩:=seven (hv 0 (by omega));obtain⟨q0,q1,q2,q3,q4,q5,q6,hq⟩:=seven (hv 1 (by omega));obtain⟨r0,r1,r2,r3,r4,r5,r6,hr⟩:=seven (hv 2 (by omega));obtain⟨s0,s1,s2,s3,s4,s5,s6,hs⟩:=seven (hv 3 (by omega));unfold Qu;rw[hp,hq,hr,hs];obtain rfl | rfl | rfl | rfl:k=0∨k=1∨k=2∨k=3:=by omega
 . rw[hp];obtain rfl | rfl | rfl | rfl | rfl | rfl | rfl:j=0∨j=1∨j=2∨j=3∨j=4∨j=5∨j=6:=by omega
   all_goals rfl
 . rw[hq];obtain rfl | rfl | rfl | rfl | rfl | rfl | rfl:j=0∨j=1∨j=2∨j=3∨j=4∨j=5∨j=6:=by omega
   all_goals rfl
 . rw[hr];obtain rfl | rfl | rfl | rfl | rfl | rfl | rfl:j=0∨j=1∨j=2∨j=3∨j=4∨j=5∨j=6:=by omega
   all_goals rfl
 . rw[hs];obtain rfl | rfl | rfl | rfl | rfl | rfl | rfl:j=0∨j=1∨j=2∨j=3∨j=4∨j=5∨j=6:=by omega
   all_goals rfl
theorem Zk (gs:Nat)(v:Nat->List Value)(hv:∀k,k<4->(v k).length=7){k:Nat}(hk:k<4){j:Nat}(hj:j<7)(u:Value):(Qu gs v).set (1+k*7+j) u=Qu gs (upd v k ((v k).set j u)):=by
 obtain⟨p0,p1,p2,p3,p4,p5,p6,hp⟩:=seven (hv 0 (by omega));obtain⟨q0,q1,q2,q3,q4,q5,q6,hq⟩:=seven (hv 1 (by omega));obtain⟨r0,r1,r2,r3,r4,r5,r6,hr⟩:=seven (hv 2 (by omega));obtain⟨s0,s1,s2,s3,s4,s5,s6,hs⟩:=seven (hv 3 (by omega));obtain rfl | rfl | rfl | rfl:k=0∨k=1∨k=2∨k=3:=by omega
 . show _=.pointer (some ⟨gs,0,none⟩)::((v 0).set j u++(v 1++(v 2++v 3)));unfold Qu;rw[hp,hq,hr,hs];obtain rfl | rfl | rfl | rfl | rfl | rfl | rfl:j=0∨j=1∨j=2∨j=3∨j=4∨j=5∨j=6:=by omega
   all_goals rfl
 . show _=.pointer (some ⟨gs,0,none⟩)::(v 0++((v 1).set j u++(v 2++v 3)));unfold Qu;rw[hp,hq,hr,hs];obtain rfl | rfl | rfl | rfl | rfl | rfl | rfl:j=0∨j=1∨j=2∨j=3∨j=4∨j=5∨j=6:=by omega
   all_goals rfl
 . show _=.pointer (some ⟨gs,0,none⟩)::(v 0++(v 1++((v 2).set j u++v 3)));unfold Qu;rw[hp,hq,hr,hs];obtain rfl | rfl | rfl | rfl | rfl | rfl | rfl:j=0∨j=1∨j=2∨j=3∨j=4∨j=5∨j=6:=by omega
   all_goals rfl
 . show _=.pointer (some ⟨gs,0,none⟩)::(v 0++(v 1++(v 2++(v 3).set j u)));unfold Qu;rw[hp,hq,hr,hs];obtain rfl | rfl | rfl | rfl | rfl | rfl | rfl:j=0∨j=1∨j=2∨j=3∨j=4∨j=5∨j=6:=by omega
   all_goals rfl
theorem C9 (c:Nat->Gt.Cn)(x:Nat->R8)(k:Nat)(c':Gt.Cn)(x':R8):Ei (upd c k c') (upd x k x')=upd (Ei c x) k (Zj c' x'):=by
 funext i;unfold Ei upd;split <;> rfl
structure kR (w:World)(g gs:Nat)(v:Nat->List Value):Prop where
 row:w.heap[g]? = some (.cells (Qu gs v).toArray 80 (0,0))
 seven:∀k,k<4->(v k).length=7
theorem kR.store {w:World}{g gs:Nat}{v:Nat->List Value}(h:kR w g gs v):w.cell? ⟨g,0,none⟩=some (.pointer (some ⟨gs,0,none⟩)):=fK w g 0 _ _ _ h.row
theorem kR.at_ {w:World}{g gs:Nat}{v:Nat->List Value}(h:kR w g gs v){k:Nat}(hk:k<4){j:Nat}(hj:j<7){u:Value}(hu:(v k)[j]? = some u):w.cell? ⟨g,1+k*7+j,none⟩=some u:=by
 rw[fK w g _ _ _ _ h.row,abI gs v h.seven hk hj];exact hu
theorem kR.fz {w:World}{g gs:Nat}{v:Nat->List Value}(h:kR w g gs v)(j:Nat):w.frozen? ⟨g,j,none⟩=false:=fM w g j _ _ h.row
theorem kR.lt {w:World}{g gs:Nat}{v:Nat->List Value}(h:kR w g gs v):g<w.heap.size:=(aL.1 h.row).1
theorem kR.set {w:World}{g gs:Nat}{v:Nat->List Value}(h:kR w g gs v){k:Nat}(hk:k<4){j:Nat}(hj:j<7)(u:Value):kR (w.setCell ⟨g,1+k*7+j,none⟩ u) g gs (upd v k ((v k).set j u)):=by
 refine⟨?_,fun i hi=>?_⟩
 . rw[fO w g _ _ _ _ h.row];congr 2;rw[<-Zk gs v h.seven hk hj];simp
 . unfold upd;split
   . rw[aP];exact h.seven k hk
   . exact h.seven i hi
inductive Ej
 | row
 | jS
 | rq (k:Nat)
 | fl (k:Nat)
 | bd (k:Nat)
 | ret
 | out
def FY (g gs:Nat)(s:Sr.Sh)(v:Nat->List Value)(n:Nat)(c:Nat->Gt.Cn)(x:Nat->R8)(z:Nat->Ob)(o:Ob):Ej->Ob
 | .row=>fun w S=>kR w g gs v∧S g
 | .jS=>fun w S=>iI w S gs s
 | .rq k=>fun w S=>k<n->jI w S (x k).gp (c k).rq
 | .fl k=>fun w S=>(k<n->nE w S (x k).fo (x k).gM (c k).hd.fields.length (gU (Rq.ny (c k).hd.fields)))∧z k w S
 | .bd k=>fun w S=>k<n->gZ w S 5 (x k).bo (x k).gK (c k).body
 | .ret=>o
 | .out=>fun _ _=>True
theorem ou {g gs:Nat}{s:Sr.Sh}{v:Nat->List Value}{n:Nat}{c:Nat->Gt.Cn}{x:Nat->R8}{z:Nat->Ob}{o:Ob}(Lz:∀k,lQ (z k))(Lo:lQ o):∀d,lQ (FY g gs s v n c x z o d)
 | .row=>⟨fun h ht hs=>⟨⟨ht.row h.1.row (hs g h.2),h.1.seven⟩,h.2⟩,fun h hs=>⟨h.1,hs g h.1.lt h.2⟩⟩
 | .jS=>⟨fun h ht hs=>iI.turns h ht hs,fun h hs=>iI.mono h hs⟩
 | .rq _=>⟨fun h ht hs hk=>(h hk).turns ht hs,fun h hs hk=>(h hk).mono hs⟩
 | .fl k=>⟨fun h ht hs=>⟨fun hk=>(h.1 hk).turns ht hs,(Lz k).turns h.2 ht hs⟩,fun h hs=>⟨fun hk=>(h.1 hk).mono hs,(Lz k).mono h.2 hs⟩⟩
 | .bd _=>⟨fun h ht hs hk=>(h hk).turns ht hs,fun h hs hk=>(h hk).mono hs⟩
 | .ret=>Lo
 | .out=>lQ.nG
def noZ:Nat->Ob:=fun _ _ _=>True
def Lc:Ob:=fun _ _=>True
def jC (w:World)(S:Nat->Prop)(g gs:Nat)(s:Sr.Sh)(c:Nat->Gt.Cn):Prop:=∃κ x,Held (FY g gs s (Ei c x) 4 c x noZ Lc) κ w∧∀k,κ k≠.out->S k
section
variable {w w':World} {S S':Nat->Prop} {g gs:Nat} {s:Sr.Sh} {c:Nat->Gt.Cn}
theorem jC.turns (h:jC w S g gs s c)(ht:Turns S' w w')(hs:∀k,S k->¬S' k):jC w' S g gs s c:=by
 obtain⟨κ,x,hH,hS⟩:=h;refine⟨κ,x,fun d=>?_,hS⟩;by_cases hd:d=.out
 . subst hd;exact trivial
 . exact(ou (fun _=>lQ.nG) lQ.nG d).turns (hH d) ht (fun k e=>hs k (hS k (by rw[e];exact hd)))
theorem jC.stay (h:jC w S g gs s c)(hb:aj w w'):jC w' S g gs s c:=h.turns (Turns.of_below (S:=fun _=>False) hb) (fun _ _ e=>e)
theorem jC.mono (h:jC w S g gs s c)(hs:∀k,k<w.heap.size->S k->S' k):jC w S' g gs s c:=by
 obtain⟨κ,x,hH,hS⟩:=h;refine⟨jd κ w.heap.size .out,x,fun d=>?_,fun k hk=>?_⟩
 . by_cases hd:d=.out
   . subst hd;exact trivial
   . exact(ou (fun _=>lQ.nG) lQ.nG d).mono (hH d) (fun k hk e=>(jc hk).trans e)
 . rcases aU k w.heap.size with hl | hl
   . rw[jc hl] at hk;exact hs k hl (hS k hk)
   . exact absurd (qO hl) hk
theorem jC.jS (h:jC w S g gs s c):iI w S gs s:=by
 obtain⟨κ,x,hH,hS⟩:=h;exact iI.mono (hH .jS) (fun k _ e=>hS k (by rw[e];intro h;cases h))
theorem jC.lt (h:jC w S g gs s c):g<w.heap.size:=by
 obtain⟨κ,x,hH,hS⟩:=h;exact(hH .row).1.lt
end
theorem Ta (a b:ay):(a.toList==b.toList)=decide (a.data.toList=b.data.toList):=by
 rw[Lib.toList_data,Lib.toList_data,aH];simp
theorem om.Km {w:World}{S:Nat->Prop}{tO tU tB g:Nat}{s:Sp.St}(h:om w S tO tU tB g s)(v:Int):om (w.setCell ⟨g,1,none⟩ (.int .i64 v)) S tO tU tB g ⟨s.l,v⟩∧Turns (fun k=>k=g) w (w.setCell ⟨g,1,none⟩ (.int .i64 v)):=by
 obtain⟨ao,cap,h1,h2,h3⟩:=h;have hT:Turns (fun k=>k=g) w (w.setCell ⟨g,1,none⟩ (.int .i64 v)):=Turns.setCell (fun k=>k=g) w _ _ rfl;exact⟨⟨ao,cap,fO w g 1 _ tO _ h1,h2,h3.turns hT (fun k e e2=>e.2 e2)⟩,hT⟩
theorem Iw (s:Sp.St)(S:Nat->Prop)(g:Nat)(w:World)(h:iV w S g s)(h0:0<=s.last)(h1:s.last<=1000000):
 Calls prog 158 #[.pointer (some ⟨g,0,none⟩)] w fun e w'=>e=.returned (.int .i64 (s.last+1))∧w'=w:=by
 obtain⟨ao,cap,c0,c1,f0,f1,hg,hS,hU⟩:=h.cells;clear hU hg hS c0 f0 f1 h;generalize s.last=t at *;go_enter func158,ntmps158;go_wp2;go_ret;exact⟨rfl,rfl⟩
structure Made (S:Nat->Prop)(tO:Nat)(w:World)(g:Nat)(r:Sp.St×Int×Nat)(e:Ending)(w':World):Prop where
 ret:e=.returned (.tuple #[.int .i64 r.2.1,.int .i64 (r.2.2:Int)])
 at_:om w' (gN S w) tO 101 5 g r.1
 turns:Turns S w w'
theorem Made.none_ {w w':World}{S:Nat->Prop}{tO g:Nat}{s:Sp.St}{c:Nat}(h:om w S tO 101 5 g s)(hb:aj w w'){r:Sp.St×Int×Nat}(hr:r=(s,0,c)):Made S tO w g r (.returned (.tuple #[.int .i64 0,.int .i64 (c:Int)])) w':=by
 subst hr;exact⟨rfl,(h.stay hb).mono (fun k _ e=>Or.inl e),Turns.of_below hb⟩
theorem L9 (s:Sp.St)(S:Nat->Prop)(g:Nat)(sz:Int)(m:ay)(w:World)(h:iV w S g s)(ok:Sp.Ok s)(hl:s.last<=1000000)(hm:m.size<=1000000):
 Calls prog 161 #[.pointer (some ⟨g,0,none⟩),.int .i64 sz,.string m] w (Made S 104 w g (Sp.create s sz m)):=by
 have hN:=ok.few;have hl0:=ok.Dn;obtain⟨ao,cap,c0,c1,f0,f1,hg,hS,hU⟩:=h.cells;have hcap:=hU.cap_;by_cases h1:sz < -1
 . have HR:Hid (Made S 104 w g (Sp.create s sz m) (.returned (.tuple #[.int .i64 0,.int .i64 (1:Nat)])) w):=Made.none_ h (fJ _ _) (by unfold Sp.create;rw[if_pos h1]);clear h ok hU hg c0 c1;go_enter func161,ntmps161;go_wp2;go_ret2;exact HR.o
 . have n1:decide (sz < -1)=false:=by rw[bQ];exact h1
   by_cases h2:2000<sz
   . have HR:Hid (Made S 104 w g (Sp.create s sz m) (.returned (.tuple #[.int .i64 0,.int .i64 (4:Nat)])) w):=Made.none_ h (fJ _ _) (by unfold Sp.create;rw[if_neg h1,if_pos (Or.inl h2)]);have n2:decide (sz > 2000)=true:=by rw[bR];exact h2
     clear h ok hU hg c0 c1;go_enter func161,ntmps161;go_wp2;go_ret2;exact HR.o
   . have n2:decide (sz > 2000)=false:=by rw[bQ];exact h2
     by_cases h3:100<m.size
     . have HR:Hid (Made S 104 w g (Sp.create s sz m) (.returned (.tuple #[.int .i64 0,.int .i64 (4:Nat)])) w):=Made.none_ h (fJ _ _) (by unfold Sp.create;rw[if_neg h1,if_pos (Or.inr h3)]);have n3:decide ((m.size:Int) > 100)=true:=by rw[bR];omega
       clear h ok hU hg c0 c1;go_enter func161,ntmps161;go_wp2;go_ret2;exact HR.o
     . have n3:decide ((m.size:Int) > 100)=false:=by rw[bQ];omega
       have e2:¬(2000<sz∨100<m.size):=by omega
       have HV:=H9 (kU m w (by unfold maxLen;omega));cases hv:Ch.iy m.data.toList with
       | false =>
         rw[hv] at HV;have HR:Hid (Made S 104 w g (Sp.create s sz m) (.returned (.tuple #[.int .i64 0,.int .i64 (3:Nat)])) w):=Made.none_ h (fJ _ _) (by unfold Sp.create;rw[if_neg h1,if_neg e2,if_pos (Or.inl hv)]);clear h ok hU hg c0 c1 hv;go_enter func161,ntmps161;go_wp2_with (go_at_call 192;refine HV.o.mono ?_;rintro e w1 ⟨rfl,rfl⟩)
         go_ret2;exact HR.o
       | true =>
         rw[hv] at HV;have tC:=H9 (tY m w (by omega));have hts:=Ta ⟨(Lib.trimS m.data.toList Ch.ws).toArray⟩ m;obtain⟨T,hT⟩:∃T:ay,T=⟨(Lib.trimS m.data.toList Ch.ws).toArray⟩:=⟨_,rfl⟩;have hTd:T.data.toList=Lib.trimS m.data.toList Ch.ws:=by rw[hT]
         rw[<-hT] at tC hts;rw[hTd] at hts;by_cases h4:Lib.trimS m.data.toList Ch.ws=m.data.toList
         . rw[aI h4] at hts;have e3:¬(Ch.iy m.data.toList=false∨Lib.trimS m.data.toList Ch.ws≠m.data.toList):=by rw[hv];simpa using h4
           by_cases h5:12<=s.l.length
           . have HR:Hid (∀W,aj w W->W.cell? ⟨g,0,none⟩=some (.slice ao s.l.length cap)∧Made S 104 w g (Sp.create s sz m) (.returned (.tuple #[.int .i64 0,.int .i64 (8:Nat)])) W):=fun W hW=>⟨by rw[hW.cell (p:=⟨g,0,none⟩) h.lt];exact c0,Made.none_ h hW (by unfold Sp.create;rw[if_neg h1,if_neg e2,if_neg e3,if_pos h5])⟩;have n5:decide ((s.l.length:Int)≥12)=true:=by rw[bR];omega
             clear h ok hU hg c0 c1 hT hTd h4 hv e3;go_enter func161,ntmps161;go_wp2_with (first | (go_at_call 192;refine HV.o.mono ?_;rintro e w1 ⟨rfl,rfl⟩) | (go_at_call 193;refine tC.o.mono ?_;rintro e w1 ⟨rfl,hb⟩;obtain⟨d0,hd⟩:=HR.o w1 hb;have HD:=H9 hd;clear hd hb))
             go_ret2;exact HD.o
           . have n5:decide ((s.l.length:Int)≥12)=false:=by rw[bQ];omega
             have UU:Hid (Sp.create s sz m=(⟨s.l++[⟨s.last+1,sz,m,[],0⟩],s.last+1⟩,s.last+1,0)):=by unfold Sp.create;rw[if_neg h1,if_neg e2,if_neg e3,if_neg h5];exact rfl
             have HA:=H9 h;have OJ:Hid (∀W,aj w W->Calls prog 158 #[.pointer (some ⟨g,0,none⟩)] W fun e w'=>e=.returned (.int .i64 (s.last+1))∧w'=W):=fun W hW=>Iw s S g W (h.stay hW) hl0 hl;have Am:=H9 (fun W=>lM m W hm);have HC:Hid (∀W,aj w W->W.cell? ⟨g,0,none⟩=some (.slice ao s.l.length cap)∧W.cell? ⟨g,1,none⟩=some (.int .i64 s.last)∧W.frozen? ⟨g,1,none⟩=false):=fun W hW=>⟨by rw[hW.cell (p:=⟨g,0,none⟩) h.lt];exact c0,by rw[hW.cell (p:=⟨g,1,none⟩) h.lt];exact c1,by rw[hW.frozen (p:=⟨g,1,none⟩) h.lt];exact f1⟩;clear h ok hU hg c0 c1 f0 f1 hS hT hTd h4 hv e3;go_enter func161,ntmps161;go_wp2_with (first | (go_at_call 192;refine HV.o.mono ?_;rintro e w1 ⟨rfl,hw⟩;rw[hw];clear hw) | (go_at_call 193;refine tC.o.mono ?_;rintro e w1 ⟨rfl,hb⟩;obtain⟨d0,d1,d2⟩:=HC.o w1 hb;have HB:=H9 hb;clear hb) | (go_at_call 158;refine(OJ.o _ HB.o).mono ?_;rintro e wn ⟨rfl,hw⟩;rw[hw];clear hw))
             obtain⟨hs2,ht2⟩:=(HA.o.stay HB.o).Km (s.last+1);have jV:Turns S w (w1.setCell ⟨g,1,none⟩ (.int .i64 (s.last+1))):=(Turns.of_below HB.o).trans (ht2.mono (fun k e=>by subst e;exact HA.o.cells.choose_spec.choose_spec.2.2.2.2.2.1)) (fun _ e _=>e);generalize hw3:w1.setCell ⟨g,1,none⟩ (.int .i64 (s.last+1))=w3 at *;clear hw3 ht2 d0 d1 d2 HC OJ HB tC HV;obtain⟨jQ,gX,c0,c1,f0,f1,hg3,M7,hU3⟩:=hs2.cells;have Jh:=H9 hs2;have hlt:=hs2.lt;have HT3:=H9 jV;have sG:=H9 hg3;have HU3:=H9 hU3
             clear hs2 jV hg3 hU3 HA;simp only at c0 c1;have aey:Hid (Calls prog 113 #[.string m] (w3.alloc (.cells #[.int .i64 0,.int .i64 0,.string ⟨#[]⟩,.slice none 0 0,.int .i64 0] 101)).drew fun e w4=>e=.returned (.string m)∧aj w3 w4∧w4.heap[w3.heap.size]? = some (.cells #[.int .i64 0,.int .i64 0,.string ⟨#[]⟩,.slice none 0 0,.int .i64 0] 101 (0,0))):=(Am.o _).mono fun e w4 ⟨he,hb4⟩=>by
              refine⟨he,(((fJ _ w3).alloc (aM _) _).trans (gQ _ _)).trans (hb4.mono (by show w3.heap.size<=(w3.alloc _).heap.size;rw[fZ];omega)),?_⟩;rw[hb4.block w3.heap.size (by show w3.heap.size<(w3.alloc _).heap.size;rw[fZ];omega)];exact fI w3 _
             have aez:Hid (Calls prog 113 #[.string m] w3.drew fun e w4=>e=.returned (.string m)∧aj w3 w4):=(Am.o _).mono fun e w4 ⟨he,hb4⟩=>⟨he,(gQ _ _).trans hb4⟩;have am1:¬w3.heap.size=g:=by omega
             have aku:¬g=w3.heap.size:=by omega
             clear Am;have HMt:Hid (∀w4,aj w3 w4->w4.heap[w3.heap.size]? = some (.cells #[.int .i64 0,.int .i64 0,.string ⟨#[]⟩,.slice none 0 0,.int .i64 0] 101 (0,0))->aj w3 (((((w4.setCell ⟨w3.heap.size,0,none⟩ (.int .i64 (s.last+1))).setCell ⟨w3.heap.size,1,none⟩ (.int .i64 sz)).setCell ⟨w3.heap.size,2,none⟩ (.string m)).setCell ⟨w3.heap.size,3,none⟩ (.slice none 0 0)).setCell ⟨w3.heap.size,4,none⟩ (.int .i64 0))∧(((((w4.setCell ⟨w3.heap.size,0,none⟩ (.int .i64 (s.last+1))).setCell ⟨w3.heap.size,1,none⟩ (.int .i64 sz)).setCell ⟨w3.heap.size,2,none⟩ (.string m)).setCell ⟨w3.heap.size,3,none⟩ (.slice none 0 0)).setCell ⟨w3.heap.size,4,none⟩ (.int .i64 0)).heap[w3.heap.size]? = some (.cells #[.int .i64 (s.last+1),.int .i64 sz,.string m,.slice none 0 0,.int .i64 0] 101 (0,0))):=fun w4 hb hr=>by
              refine⟨((((hb.setCell (aM _) _).setCell (aM _) _).setCell (aM _) _).setCell (aM _) _).setCell (aM _) _,?_⟩;exact fO _ _ 4 _ _ _ (fO _ _ 3 _ _ _ (fO _ _ 2 _ _ _ (fO _ _ 1 _ _ _ (fO _ _ 0 _ _ _ hr))))
             go_cut [8] (fun t wd=>∃nb,t=.pointer (some ⟨nb,0,none⟩)∧w3.heap.size<=nb∧aj w3 wd∧wd.heap[nb]? = some (.cells #[.int .i64 (s.last+1),.int .i64 sz,.string m,.slice none 0 0,.int .i64 0] 101 (0,0)))
             case first =>
              go_region_held3 (fun w'=>w'.cell? ⟨g,1,none⟩=some (.int .i64 (s.last+1))) (go_keep) (first
               | (go_at_call 113;refine aey.o.mono ?_;rintro e w4 ⟨rfl,hb5,sj⟩;have c1':w4.cell? ⟨g,1,none⟩=some (.int .i64 (s.last+1)):=(hb5.cell (p:=⟨g,1,none⟩) hlt).trans c1;have z0:=fK w4 _ 0 _ _ _ sj;have z1:=fK w4 _ 1 _ _ _ sj;have z2:=fK w4 _ 2 _ _ _ sj;have z3:=fK w4 _ 3 _ _ _ sj;have z4:=fK w4 _ 4 _ _ _ sj;have y0:=fM w4 _ 0 _ _ sj;have y1:=fM w4 _ 1 _ _ sj;have y2:=fM w4 _ 2 _ _ sj;have y3:=fM w4 _ 3 _ _ sj;have y4:=fM w4 _ 4 _ _ sj;simp at z0 z1 z2 z3 z4;have jK:=H9 hb5;have HR4:=H9 sj;clear hb5 sj)
               | (go_at_call 113;refine aez.o.mono ?_;rintro e w4 ⟨rfl,hb5⟩;have c1':w4.cell? ⟨g,1,none⟩=some (.int .i64 (s.last+1)):=(hb5.cell (p:=⟨g,1,none⟩) hlt).trans c1;have am2:¬w4.heap.size=g:=(by have:=hb5.size;omega);have akv:¬g=w4.heap.size:=(by have:=hb5.size;omega);have jK:=H9 hb5;clear hb5))
              all_goals go_wp2
              all_goals go_meet
              . exact⟨_,rfl,jK.o.size,jK.o.alloc jK.o.size _,fI w4 _⟩
              . exact⟨_,rfl,aM _,HMt.o w4 jK.o HR4.o⟩
             case rest =>
              obtain⟨nb,rfl,hnb,hb4,hr4⟩:=hcut;have hU4:=HU3.o.stay hb4;obtain⟨xs,hO,hP⟩:=hU4.push (.cells #[.int .i64 (s.last+1),.int .i64 sz,.string m,.slice none 0 0,.int .i64 0] 101);have hg4:wc.heap[g]? = some _:=(hb4.block g hlt).trans sG.o;have jq:=(fJ _ wc).alloc (aM _) (.cells #[.int .i64 (s.last+1),.int .i64 sz,.string m,.slice none 0 0,.int .i64 0] 101);have c0a:(wc.alloc (.cells #[.int .i64 (s.last+1),.int .i64 sz,.string m,.slice none 0 0,.int .i64 0] 101)).cell? ⟨g,0,none⟩=some (.slice jQ s.l.length gX):=(jq.cell (p:=⟨g,0,none⟩) (by show g<wc.heap.size;have:=hb4.size;omega)).trans (fK wc g 0 _ _ _ hg4);have c0b:wc.cell? ⟨g,0,none⟩=some (.slice jQ s.l.length gX):=fK wc g 0 _ _ _ hg4;have z0:wc.cell? ⟨nb,0,none⟩=some (.int .i64 (s.last+1)):=fK wc nb 0 _ _ _ hr4;have z1:wc.cell? ⟨nb,1,none⟩=some (.int .i64 sz):=fK wc nb 1 _ _ _ hr4;have z2:wc.cell? ⟨nb,2,none⟩=some (.string m):=fK wc nb 2 _ _ _ hr4;have z3:wc.cell? ⟨nb,3,none⟩=some (.slice none 0 0):=fK wc nb 3 _ _ _ hr4;have z4:wc.cell? ⟨nb,4,none⟩=some (.int .i64 0):=fK wc nb 4 _ _ _ hr4;have ab4:=hb4.size;have hbl:∀k,gL jQ=some k->(S k∧k≠g)∧k<w3.heap.size:=fun k e=>by
               obtain⟨us,_,h2,h3,_⟩:=HU3.o;cases jQ with
               | none=>cases e
               | some a=>injection e with e;subst e;exact⟨h3 a rfl,(h2.block a rfl).2⟩
              have am3:nb<wc.heap.size:=(aL.1 hr4).1;have HK:Hid (∀w5,(wc.alloc (.cells #[.int .i64 (s.last+1),.int .i64 sz,.string m,.slice none 0 0,.int .i64 0] 101)).drew.grownBy w5 (Value.slice jQ s.l.length gX).ownBlock->w5.heap[g]? = some (.cells #[.slice jQ s.l.length gX,.int .i64 (s.last+1)] 104 (0,0))∧w5.heap[nb]? = some (.cells #[.int .i64 (s.last+1),.int .i64 sz,.string m,.slice none 0 0,.int .i64 0] 101 (0,0))):=fun w5 hG=>by
               rw[gP] at hG;refine⟨?_,?_⟩
               . rw[hG.block g (by show g<(wc.alloc _).heap.size;rw[fZ];omega) (fun e=>(hbl g e.symm).1.2 rfl)];exact(jq.block g (by omega)).trans hg4
               . rw[hG.block nb (by show nb<(wc.alloc _).heap.size;rw[fZ];omega) (fun e=>by have:=(hbl nb e.symm).2;omega)];exact(jq.block nb (by omega)).trans hr4
              have HO:=H9 (gV.stay hO (gQ _ _));have UW:Hid (∀j u,(vF ⟨s.last+1,sz,m,[],0⟩ ⟨none,0⟩)[j]? = some u->(wc.alloc (.cells #[.int .i64 (s.last+1),.int .i64 sz,.string m,.slice none 0 0,.int .i64 0] 101)).drew.cell? (Addr.add ⟨wc.heap.size,0,none⟩ j)=some u):=fun j u hu=>by
               rw[gI,bq];show(wc.alloc _).cell? _=_;rw[World.cell?_alloc_at _ _ _ _ rfl,dH];exact hu
              have HP:=H9 hP;have jK:=H9 hb4;have HBL:=H9 hbl;obtain⟨i0,hi0,hz0,hz1,hz2⟩:=info_parts JD;have Hi:=H9 hi0;have kK:=H9 hz0;have kH:=H9 hz1;have kL:=H9 hz2
              have HN:Hid (s.l.length+1<=maxLen∧(s.l.length+1)*64<=140737488355328):=⟨by unfold maxLen;omega,by omega⟩;have UK:¬nb=g:=by omega
              have am4:¬g=nb:=by omega
              clear hi0 hz0 hz1 hz2 hO hP hbl jq hg4 hU4 hb4 hr4 HMt aey aez;go_wp2;go_region_law
               ((refine step_append_lies _ (by rfl) _ _ _ (by rfl) 0 101 i0 (.agg #[.int .i64 0,.int .i64 0,.string ⟨#[]⟩,.slice none 0 0,.int .i64 0]) 5 64 underlying40 Hi.o kK.o kH.o kL.o (by rfl) (by decide) (.slice jQ s.l.length gX) s.l.length _ (by rfl) HO.o ⟨wc.heap.size,0,none⟩ 1 1 (vF ⟨s.last+1,sz,m,[],0⟩ ⟨none,0⟩) (by rfl) (by rfl) UW.o (Qs _ _) (by decide) HN.o.1 HN.o.2 (aA _) (wc.heap.size+1) (by simp) ?_;intro g5 cap5 w5 hown5 hgrow wR ah1;obtain⟨r5,r6⟩:=HK.o _ hgrow;have q0:w5.cell? ⟨g,0,none⟩=some (.slice jQ s.l.length gX):=fK w5 g 0 _ _ _ r5;have q1:w5.frozen? ⟨g,0,none⟩=false:=fM w5 g 0 _ _ r5;have q2:w5.cell? ⟨nb,0,none⟩=some (.int .i64 (s.last+1)):=fK w5 nb 0 _ _ _ r6;have SE:=H9 r5;have HG5:=H9 hgrow;have tH:=H9 hown5;have HA5:=H9 wR;clear hgrow hown5 wR r5 r6 ah1))
              all_goals
               go_wp2;go_ret2;have hG:=HG5.o;have hat:=HA5.o;rw[gP] at hG hat;obtain⟨r1,r2⟩:=HP.o (some ⟨g5,0,none⟩) cap5 w5 ⟨s.last+1,sz,m,[],0⟩ ⟨none,0⟩ (fun _=>False) (gZ.nil _ _ _) (fun _ _ e=>e) tH.o (jW (rA _ _) hG) (by
                rcases hat with e | e
                . exact Or.inl e.symm
                . exact Or.inr (by rw[fZ,e];rfl))
               have am5:=HT3.o.size;obtain⟨hL,hTL⟩:=om.lay (S:=gN S w) SE.o (Or.inl M7) (n:=s.l.length+1) (r1.mono (fun k _ e=>by
                rcases e with e | e | e
                . exact⟨Or.inl e.1,e.2⟩
                . exact e.elim
                . exact⟨Or.inr (by omega),by omega⟩)) (by simp)
               refine⟨by rw[UU.o];rfl,by rw[UU.o];exact hL,?_⟩;exact((HT3.o.trans (Turns.of_below jK.o) (fun _ e _=>e)).trans (r2.mono (fun k e=>e.1)) (fun _ e _=>e)).trans (hTL.mono (fun k e=>by subst e;exact M7)) (fun _ e _=>e)
         . rw[aJ h4] at hts;have HR:Hid (∀W,aj w W->Made S 104 w g (Sp.create s sz m) (.returned (.tuple #[.int .i64 0,.int .i64 (3:Nat)])) W):=fun W hW=>Made.none_ h hW (by unfold Sp.create;rw[if_neg h1,if_neg e2,if_pos (Or.inr h4)]);clear h ok hU hg c0 c1 hT hTd h4 hv;go_enter func161,ntmps161;go_wp2_with (first | (go_at_call 192;refine HV.o.mono ?_;rintro e w1 ⟨rfl,rfl⟩) | (go_at_call 193;refine tC.o.mono ?_;rintro e w1 ⟨rfl,hb⟩;have HD:=H9 (HR.o w1 hb);clear hb))
           go_ret2;exact HD.o
theorem Tc (s:Sp.St)(S:Nat->Prop)(g b1:Nat)(id:Int)(w:World)(h:iV w S g s)(ok:Sp.Ok s)(d1:w.cell? ⟨b1,0,none⟩=some (.int .i64 id)):
 Calls prog 174 #[.pointer (some ⟨g,0,none⟩),.pointer (some ⟨b1,0,none⟩)] w (Did S 104 w g (Sp.drop s id)):=by
 have HC:=H9 (S9 s S g id w h ok);generalize Sp.drop s id=r at *;clear ok h;go_enter func174,ntmps174;go_wp2_with fail
 refine HC.o.mono ?_;intro e w2 hd;have HD:=H9 hd;obtain⟨rfl,_,_⟩:=hd;go_wp2;go_ret;exact HD.o
theorem Te (s:Sp.St)(S:Nat->Prop)(g b1 b2:Nat)(id:Int)(sz:Int)(w:World)(h:iV w S g s)(ok:Sp.Ok s)(d1:w.cell? ⟨b1,0,none⟩=some (.int .i64 id))(d2:w.cell? ⟨b2,0,none⟩=some (.int .i64 sz)):
 Calls prog 172 #[.pointer (some ⟨g,0,none⟩),.pointer (some ⟨b1,0,none⟩),.pointer (some ⟨b2,0,none⟩)] w (Did S 104 w g (Sp.declare s id sz)):=by
 have HC:=H9 (JC s S g id sz w h ok);generalize Sp.declare s id sz=r at *;clear ok h;go_enter func172,ntmps172;go_wp2_with fail
 refine HC.o.mono ?_;intro e w2 hd;have HD:=H9 hd;obtain⟨rfl,_,_⟩:=hd;go_wp2;go_ret;exact HD.o
theorem Tf (s:Sp.St)(S:Nat->Prop)(g b1 b2 b3:Nat)(id:Int)(off:Int)(bo:ak)(bn bc:Nat)(l:av)(w:World)(h:iV w S g s)(ok:Sp.Ok s)(d1:w.cell? ⟨b1,0,none⟩=some (.int .i64 id))(d2:w.cell? ⟨b2,0,none⟩=some (.int .i64 off))(d3:w.cell? ⟨b3,0,none⟩=some (.slice bo bn bc))(hb:iH w bo bc l)(hn:l.length=bn)(hN:bn<=1000000):
 Calls prog 170 #[.pointer (some ⟨g,0,none⟩),.pointer (some ⟨b1,0,none⟩),.pointer (some ⟨b2,0,none⟩),.pointer (some ⟨b3,0,none⟩)] w (Did S 104 w g (Sp.append s id off l)):=by
 have HC:=H9 (L6 s S g id off bo bn bc l w h ok hb hn hN);generalize Sp.append s id off l=r at *;clear hN hn hb ok h;go_enter func170,ntmps170;go_wp2_with fail
 refine HC.o.mono ?_;intro e w2 hd;have HD:=H9 hd;obtain⟨rfl,_,_⟩:=hd;go_wp2;go_ret;exact HD.o
theorem Tg (s:Sp.St)(S:Nat->Prop)(g b1 b2:Nat)(sz:Int)(m:ay)(w:World)(h:iV w S g s)(ok:Sp.Ok s)(d1:w.cell? ⟨b1,0,none⟩=some (.int .i64 sz))(d2:w.cell? ⟨b2,0,none⟩=some (.string m))(hl:s.last<=1000000)(hm:m.size<=1000000):
 Calls prog 160 #[.pointer (some ⟨g,0,none⟩),.pointer (some ⟨b1,0,none⟩),.pointer (some ⟨b2,0,none⟩)] w (Did S 104 w g (Sr.made s sz m)):=by
 have HC:=H9 (L9 s S g sz m w h ok hl hm);have HP:Hid (Sr.made s sz m=((Sp.create s sz m).1,(Sp.create s sz m).2.2)):=rfl;generalize Sp.create s sz m=q at *;obtain⟨q1,q2,q3⟩:=q;generalize Sr.made s sz m=r at *;clear hm hl ok h;go_enter func160,ntmps160;go_wp2_with fail
 refine HC.o.mono ?_;intro e w2 hd;have HD:Hid (Did S 104 w g r (.returned (.int .i64 (q3:Int))) w2):=by
  rw[HP.o];exact⟨rfl,hd.at_,hd.turns⟩
 obtain⟨rfl,_,_⟩:=hd;go_wp2;go_ret;exact HD.o
abbrev aeA (B:Nat)(w:World)(g:Nat)(s:Sp.St):Prop:=iV w (fun k=>B<=k) g s
theorem Did.ZF {B:Nat}{w w':World}{g:Nat}{r:Sp.St×Nat}{e:Ending}(h:Did (fun k=>B<=k) 104 w g r e w')(hB:B<=w.heap.size):e=.returned (.int .i64 (r.2:Int))∧aeA B w' g r.1∧Below B w w':=by
 refine⟨h.ret,h.at_.mono (fun k _ e=>?_),h.turns.below (fun k e=>e) hB⟩;rcases e with e | e
 . exact e
 . omega
theorem EM (i z t:Int)(m:ay)(bo:ak)(n gK:Nat)(bs:av)(w:World)(hB:iH w bo gK bs)(hn:bs.length=n)(hN:n<=1000000)(hm:m.size<=1000000):
 Calls prog 72 #[.agg #[.int .i64 i,.int .i64 z,.string m,.slice bo n gK,.int .i64 t]] w fun e w'=>∃ao cap,e=.returned (.agg #[.int .i64 i,.int .i64 z,.string m,.slice ao n cap,.int .i64 t])∧gZ w' (fun k=>w.heap.size<=k) 5 ao cap bs∧aj w w':=by
 have M8:=H9 (fun W=>lM m W hm);have HC2:Hid (∀W,aj w W->Calls prog 114 #[.slice bo n gK] W fun e w'=>∃ao cap,e=.returned (.slice ao n cap)∧gZ w' (fun k=>W.heap.size<=k) 5 ao cap bs∧aj W w'):=fun W hW=>EL bs bo gK n W (hB.stay hW) hn (by omega);clear hB;go_enter func72,ntmps72;go_upto_region 1 with fail
 have h0:lF w (.cells #[.int .i64 i,.int .i64 z,.string m,.slice bo n gK,.int .i64 t] 101 (0,0)) (.cells #[.int .i64 0,.int .i64 0,.string ⟨#[]⟩,.slice none 0 0,.int .i64 0] 101 (0,0)) _:=lF.made w #[.int .i64 i,.int .i64 z,.string m,.slice bo n gK,.int .i64 t] #[.int .i64 0,.int .i64 0,.string ⟨#[]⟩,.slice none 0 0,.int .i64 0] 101 101;have Am:Hid (∀W,lF w (.cells #[.int .i64 i,.int .i64 z,.string m,.slice bo n gK,.int .i64 t] 101 (0,0)) (.cells #[.int .i64 0,.int .i64 0,.string ⟨#[]⟩,.slice none 0 0,.int .i64 0] 101 (0,0)) W->W.cell? ⟨w.heap.size,2,none⟩=some (.string m)∧W.cell? ⟨w.heap.size,3,none⟩=some (.slice bo n gK)∧W.frozen? ⟨w.heap.size,2,none⟩=false∧W.frozen? ⟨w.heap.size,3,none⟩=false):=fun W h=>⟨h.cell 2,h.cell 3,h.fz 2,h.fz 3⟩;obtain⟨c2,c3,f2,f3⟩:=Am.o _ h0;have hs0:w.heap.size+2<=((w.alloc (.cells #[.int .i64 i,.int .i64 z,.string m,.slice bo n gK,.int .i64 t] 101)).alloc (.cells #[.int .i64 0,.int .i64 0,.string ⟨#[]⟩,.slice none 0 0,.int .i64 0] 101)).heap.size:=by simp
 generalize ((w.alloc (.cells #[.int .i64 i,.int .i64 z,.string m,.slice bo n gK,.int .i64 t] 101)).alloc (.cells #[.int .i64 0,.int .i64 0,.string ⟨#[]⟩,.slice none 0 0,.int .i64 0] 101))=w1 at *;have HX:=H9 h0;have ZG:=H9 hs0;clear h0 hs0;go_cut [3] (fun _ wd=>∃ao cap,lF w (.cells #[.int .i64 i,.int .i64 z,.string m,.slice ao n cap,.int .i64 t] 101 (0,0)) (.cells #[.int .i64 0,.int .i64 0,.string ⟨#[]⟩,.slice none 0 0,.int .i64 0] 101 (0,0)) wd∧gZ wd (fun k=>w.heap.size+2<=k) 5 ao cap bs)
 case first =>
  go_region_with (first
   | (go_at_call 113;refine(M8.o _).mono ?_;rintro e w2 ⟨rfl,hb2⟩;have hx2:=HX.o.stay ((gQ _ _).trans hb2);obtain⟨d2,d3,g2,g3⟩:=Am.o _ hx2;have WV:=H9 hx2;have HS2:Hid (w1.heap.size<=w2.heap.size):=hb2.size;clear hb2 hx2)
   | (go_at_call 114;refine(HC2.o _ WV.o.below).mono ?_;rintro e w3 ⟨ao,cap,rfl,hO,hb3⟩;have hx3:=WV.o.stay hb3;obtain⟨e2,e3,k2,k3⟩:=Am.o _ hx3;have HX3:=H9 hx3;have HO:=H9 hO;clear hb3 hx3 hO))
  all_goals
   go_wp2;go_meet;have hx4:=HX3.o.same 2 (.string m) rfl;obtain⟨hx5,Ti⟩:=hx4.ah2 3 (.slice ao n cap);have ht4:Turns (fun k=>w.heap.size<=k∧k<w.heap.size+2) w3 (w3.setCell ⟨w.heap.size,2,none⟩ (.string m)):=Turns.setCell _ w3 _ _ ⟨aM _,by show w.heap.size<_;omega⟩;have hs0:=ZG.o;have hs2:=HS2.o;refine⟨ao,cap,hx5,((HO.o.to (S':=fun k=>w.heap.size+2<=k) (fun k e _ _=>by omega)).turns ht4 (fun k e h=>by omega)).turns Ti (fun k e h=>by omega)⟩
 case rest =>
  obtain⟨ao,cap,hx,hO⟩:=hcut;have HT:=H9 hx;have HO:=H9 hO;have d0:=hx.cell 0;have d1:=hx.cell 1;have d2:=hx.cell 2;have d3:=hx.cell 3;have d4:=hx.cell 4
  have g0:=hx.fz2 0;have g1:=hx.fz2 1;have g2:=hx.fz2 2;have g3:=hx.fz2 3;have g4:=hx.fz2 4
  have e0:=hx.yB 0;have e1:=hx.yB 1;have e2:=hx.yB 2;have e3:=hx.yB 3;have e4:=hx.yB 4
  simp at d0 d1 d2 d3 d4 e0 e1 e2 e3 e4;clear hx hO c2 c3 f2 f3 HX ZG Am M8 HC2;go_wp2;obtain⟨a1,t1⟩:=HT.o.WU 0 (.int .i64 i);obtain⟨a2,t2⟩:=a1.WU 1 (.int .i64 z);obtain⟨a3,t3⟩:=a2.WU 2 (.string m);obtain⟨a4,t4⟩:=a3.WU 3 (.slice ao n cap);obtain⟨a5,t5⟩:=a4.WU 4 (.int .i64 t);have hno:∀k,w.heap.size+2<=k->¬(w.heap.size<=k∧k<w.heap.size+2):=fun k e h=>by omega
  have vI:=((((HO.o.turns t1 hno).turns t2 hno).turns t3 hno).turns t4 hno).turns t5 hno;generalize (((((wc.setCell ⟨w.heap.size+1,0,none⟩ (Value.int .i64 i)).setCell ⟨w.heap.size+1,1,none⟩ (Value.int .i64 z)).setCell ⟨w.heap.size+1,2,none⟩ (Value.string m)).setCell ⟨w.heap.size+1,3,none⟩ (Value.slice ao n cap)).setCell ⟨w.heap.size+1,4,none⟩ (Value.int .i64 t))=w6 at a5 vI ⊢;have r0:w6.cell? ⟨w.heap.size+1,0,none⟩=some (.int .i64 i):=a5.yB 0;have r1:w6.cell? ⟨w.heap.size+1,1,none⟩=some (.int .i64 z):=a5.yB 1;have r2:w6.cell? ⟨w.heap.size+1,2,none⟩=some (.string m):=a5.yB 2;have r3:w6.cell? ⟨w.heap.size+1,3,none⟩=some (.slice ao n cap):=a5.yB 3;have r4:w6.cell? ⟨w.heap.size+1,4,none⟩=some (.int .i64 t):=a5.yB 4;refine gy (v:=.agg #[.int .i64 i,.int .i64 z,.string m,.slice ao n cap,.int .i64 t]) (by simp[results,results72,go_sem,r0,r1,r2,r3,r4]) rfl ⟨ao,cap,rfl,vI.mono (fun k _ e=>by omega),a5.below⟩
def EN (l:List Sp.Up):Prop:=l.length<=1000∧∀u∈l,u.note.size<=1000000∧u.bytes.length<=1000000
theorem Sp.Ok.small {s:Sp.St}(ok:Sp.Ok s):EN s.l:=⟨by have:=ok.few;omega,fun u hu=>⟨by have:=(ok.all u hu).note;omega,by have:=(ok.all u hu).long;omega⟩⟩
theorem Ab (l:List Sp.Up)(ao:ak)(cap n:Nat)(w:World)(hl:pW w ao cap l)(hcap:n<=cap)(hn:l.length=n)(hz:EN l):
 Calls prog 40 #[.slice ao n cap] w fun e w'=>∃gW,e=.returned (.slice gW n n)∧qF w' (fun k=>w.heap.size<=k) 101 5 gW n l∧aj w w':=by
 subst hn;have hN:=hz.1;obtain⟨i0,hi0,hz0,hz1,hz2⟩:=info_parts JD;obtain⟨w1,hmk,qz,hG1⟩:=run_make_full (P:=prog) w 0 40 101 i0 (.agg #[.int .i64 0,.int .i64 0,.string ⟨#[]⟩,.slice none 0 0,.int .i64 0]) 5 underlying40 hi0 hz0 hz1 .i64 .i64 l.length (by rw[hz2];omega) (by unfold maxLen;omega) (aA _);rw[show(Value.agg #[.int .i64 0,.int .i64 0,.string ⟨#[]⟩,.slice none 0 0,.int .i64 0]).cells=#[.int .i64 0,.int .i64 0,.string ⟨#[]⟩,.slice none 0 0,.int .i64 0] from rfl,Tj] at qz;have hb1:aj w w1:=⟨hG1.os,hG1.tape,hG1.output,hG1.size,fun k hk=>hG1.block k hk (by simp)⟩;have Yw:qF w1 (fun k=>w.heap.size<=k) 101 5 (some ⟨w.heap.size,0,none⟩) l.length (List.replicate l.length QK):=qF.zeros qz (aM _);have H:=H9 hl;have HZ:=H9 hz;have HB1:=H9 hb1;have HU1:=H9 Yw;clear hl hz hi0 hz0 hz1 hz2 qz hG1 hb1 Yw;go_enter func40,ntmps40;go_wp2;go_loopw [11] (fun t wr=>∃k:Nat,k<=l.length∧t=.int .i64 k∧aj w wr∧qF wr (fun k=>w.heap.size<=k) 101 5 (some ⟨w.heap.size,0,none⟩) l.length (l.take k++List.replicate (l.length-k) QK)) (fun t _=>l.length-(intOf t).toNat)
 case atStart=>exact⟨0,aA _,rfl,HB1.o,HU1.o⟩
 case round =>
  obtain⟨k,hk,rfl,hB,hU⟩:=hrel;have HB:=H9 hB;have HU:=H9 hU;clear hB hU;by_cases hlt:k<l.length
  . obtain⟨bb,oo,q,rfl,hc0,hc1,hc2,hc3,hc4,hIB⟩:=(H.o.stay HB.o).at_ k hlt;have hlt':(k:Int)<l.length:=by omega
    have hz:=HZ.o.2 l[k] (aC hlt);have HT:Hid ((l.take k++List.replicate (l.length-k) QK).set k l[k]=l.take (k+1)++List.replicate (l.length-(k+1)) QK):=Tk l k hlt;have hL:k<(l.take k++List.replicate (l.length-k) QK).length:=by rw[aW,bY,List.length_replicate];omega
    have jq:=(fJ _ wr).alloc (aM _) (.cells #[.int .i64 l[k].id,.int .i64 l[k].size,.string l[k].note,.slice q.bo l[k].bytes.length q.gK,.int .i64 l[k].sent] 101);have HC:=H9 (EM l[k].id l[k].size l[k].sent l[k].note q.bo l[k].bytes.length q.gK l[k].bytes (wr.alloc (.cells #[.int .i64 l[k].id,.int .i64 l[k].size,.string l[k].note,.slice q.bo l[k].bytes.length q.gK,.int .i64 l[k].sent] 101)) (hIB.stay jq) rfl hz.2 hz.1);have ah5:=HB.o.size;have HX:Hid (∀w3 gW cap',gZ w3 (fun j=>(wr.alloc (.cells #[.int .i64 l[k].id,.int .i64 l[k].size,.string l[k].note,.slice q.bo l[k].bytes.length q.gK,.int .i64 l[k].sent] 101)).heap.size<=j) 5 gW cap' l[k].bytes->Below (wr.alloc (.cells #[.int .i64 l[k].id,.int .i64 l[k].size,.string l[k].note,.slice q.bo l[k].bytes.length q.gK,.int .i64 l[k].sent] 101)).heap.size (wr.alloc (.cells #[.int .i64 l[k].id,.int .i64 l[k].size,.string l[k].note,.slice q.bo l[k].bytes.length q.gK,.int .i64 l[k].sent] 101)) w3 ->
     (∀j,j<5->(∃v,w3.cell? ⟨w.heap.size,k*5+j,none⟩=some v)∧w3.frozen? ⟨w.heap.size,k*5+j,none⟩=false) ∧
     aj w (((((w3.setCell ⟨w.heap.size,k*5,none⟩ (.int .i64 l[k].id)).setCell ⟨w.heap.size,k*5+1,none⟩ (.int .i64 l[k].size)).setCell ⟨w.heap.size,k*5+2,none⟩ (.string l[k].note)).setCell ⟨w.heap.size,k*5+3,none⟩ (.slice gW l[k].bytes.length cap')).setCell ⟨w.heap.size,k*5+4,none⟩ (.int .i64 l[k].sent)) ∧
     qF (((((w3.setCell ⟨w.heap.size,k*5,none⟩ (.int .i64 l[k].id)).setCell ⟨w.heap.size,k*5+1,none⟩ (.int .i64 l[k].size)).setCell ⟨w.heap.size,k*5+2,none⟩ (.string l[k].note)).setCell ⟨w.heap.size,k*5+3,none⟩ (.slice gW l[k].bytes.length cap')).setCell ⟨w.heap.size,k*5+4,none⟩ (.int .i64 l[k].sent)) (fun k=>w.heap.size<=k) 101 5 (some ⟨w.heap.size,0,none⟩) l.length (l.take (k+1)++List.replicate (l.length-(k+1)) QK)):=fun w3 gW cap' hO hb3=>by
     have hb4:aj wr w3:=then_ jq hb3;have hU3:=(HU.o.mono (S':=fun j=>w.heap.size<=j∧j<wr.heap.size) (fun j hj e=>⟨e,hj⟩)).stay hb4;obtain⟨g2,e2,_,_,hcf⟩:=hU3.at_.row k hL;injection e2 with e2;injection e2 with e2;subst e2;obtain⟨hU5,xQ⟩:=hU3.ah3 (u:=l[k]) hL hO (fun j e h=>by rw[fZ] at e;omega) rfl;refine⟨hcf,(HB.o.trans (hb4.mono ah5)).trans (xQ.below (fun j e=>by subst e;exact aM _) (by have:=hb4.size;omega)),?_⟩;rw[<-HT.o];refine hU5.mono (fun j _ e=>?_);rcases e with e | e
     . exact e.1
     . rw[fZ] at e;omega
    clear hIB jq HT hL HU;generalize l[k]=p at *;go_wp2_with fail
    refine HC.o.mono ?_;rintro e w3 ⟨gW,cap',rfl,hO,hb3⟩;obtain⟨hcf,hx1,hx2⟩:=HX.o w3 gW cap' hO hb3;obtain⟨⟨v0,d0⟩,f0⟩:=hcf 0 (by decide);obtain⟨⟨v1,d1⟩,f1⟩:=hcf 1 (by decide);obtain⟨⟨v2,d2⟩,f2⟩:=hcf 2 (by decide);obtain⟨⟨v3,d3⟩,f3⟩:=hcf 3 (by decide);obtain⟨⟨v4,d4⟩,f4⟩:=hcf 4 (by decide);rw[bK] at d0 f0;have Tm:=H9 hx1;have WV:=H9 hx2
    clear hcf hx1 hx2 hO hb3 HX;go_wp2;go_roundw
    case rel=>exact⟨k+1,by omega,by go_num,Tm.o,WV.o⟩
    case measure=>simp[intOf];omega
  . obtain rfl:k=l.length:=by omega
    go_wp2;go_ret;refine⟨some ⟨w.heap.size,0,none⟩,rfl,?_,HB.o⟩;have:=HU.o;rw[bP,Nat.sub_self,List.replicate_zero,bW] at this;exact this
theorem Iy (s:Sp.St)(S:Nat->Prop)(g:Nat)(w:World)(h:iV w S g s)(hz:EN s.l):
 Calls prog 18 #[.pointer (some ⟨g,0,none⟩)] w fun e w'=>∃gW,e=.returned (.slice gW s.l.length s.l.length)∧qF w' (fun k=>w.heap.size<=k) 101 5 gW s.l.length s.l∧aj w w':=by
 obtain⟨ao,cap,c0,c1,f0,f1,hg,hS,hU⟩:=h.cells;have HC:=H9 (Ab s.l ao cap s.l.length w hU.zL hU.cap_ rfl hz);clear h hU hg hS c1 f0 f1 hz;generalize s.l=l at *;go_enter func18,ntmps18;go_wp2_with fail
 refine HC.o.mono ?_;rintro e w1 ⟨gW,rfl,Yw,hb1⟩;have HU1:=H9 Yw;have HB1:=H9 hb1
 clear Yw hb1;go_wp2;go_ret;exact⟨gW,rfl,HU1.o,HB1.o⟩
theorem xR (s:Sp.St)(S:Nat->Prop)(g:Nat)(w:World)(h:iV w S g s)(hz:EN s.l):
 Calls prog 204 #[.pointer (some ⟨g,0,none⟩)] w fun e w'=>∃g',e=.returned (.pointer (some ⟨g',0,none⟩))∧iV w' (fun k=>w.heap.size<=k) g' s∧aj w w':=by
 have hlt:=h.lt;obtain⟨ao,cap,c0,c1,f0,f1,hg,hS,hU⟩:=h.cells;have HC:=H9 (Ab s.l ao cap s.l.length w.drew (hU.zL.stay (gQ _ _)) hU.cap_ rfl hz);clear h hU hg hS f0 f1 hz;have HE:Hid (∀w1 gW,qF w1 (fun k=>w.drew.heap.size<=k) 101 5 gW s.l.length s.l->Below w.drew.heap.size w.drew w1->w1.cell? ⟨g,0,none⟩=some (.slice ao s.l.length cap)∧w1.cell? ⟨g,1,none⟩=some (.int .i64 s.last)∧iV (w1.alloc (.cells #[.slice gW s.l.length s.l.length,.int .i64 s.last] 104)) (fun k=>w.heap.size<=k) w1.heap.size s∧aj w (w1.alloc (.cells #[.slice gW s.l.length s.l.length,.int .i64 s.last] 104))):=fun w1 gW Yw hb1=>by
  have hb2:aj w w1:=(gQ _ _).trans hb1;have jq:=(fJ _ w1).alloc (aM _) (.cells #[.slice gW s.l.length s.l.length,.int .i64 s.last] 104);exact⟨(hb2.cell (p:=⟨g,0,none⟩) hlt).trans c0,(hb2.cell (p:=⟨g,1,none⟩) hlt).trans c1,⟨gW,s.l.length,fI w1 _,hb2.size,((Yw.mono (S':=fun k=>w.heap.size<=k∧k<w1.heap.size) (fun k hk e=>⟨e,hk⟩)).stay jq).mono (fun k _ e=>⟨e.1,by omega⟩)⟩,then_ hb2 jq⟩
 generalize s.l.length=n at *;generalize hl:s.last=la at *;go_enter func204,ntmps204;go_wp2_with fail
 go_region_held3 (fun w'=>w'.cell? ⟨g,0,none⟩=some (.slice ao n cap)∧w'.cell? ⟨g,1,none⟩=some (.int .i64 la)) (go_keep) (first | (go_at_call 40;refine HC.o.mono ?_;rintro e w1 ⟨gW,rfl,Yw,hb1⟩;obtain⟨d0,d1,hx,hy⟩:=HE.o w1 gW Yw hb1;have HX:=H9 hx;have HY:=H9 hy;clear hx hy Yw hb1))
 all_goals
  go_wp2;go_ret;exact⟨_,rfl,HX.o,HY.o⟩
theorem Tn (s:Sp.St)(S:Nat->Prop)(g:Nat)(id:Int)(w:World)(h:iV w S g s)(ok:Sp.Ok s)(hp:Sp.place s.l id=none):
 Calls prog 125 #[.pointer (some ⟨g,0,none⟩),.int .i64 id] w fun e w'=>e=.returned (.tuple #[.agg #[.int .i64 0,.int .i64 0,.string ⟨#[]⟩,.slice none 0 0,.int .i64 0],.bool false])∧aj w w':=by
 have jq:=(fJ _ w).alloc (aM _) (.cells #[.int .i64 0,.int .i64 0,.string ⟨#[]⟩,.slice none 0 0,.int .i64 0] 101);have HI:=H9 (tZ s S g id _ (h.stay jq) (by have:=ok.few;omega));rw[Sp.zq hp] at HI;have HB:=H9 jq;clear h ok hp jq;go_enter func125,ntmps125;go_wp2_with fail
 refine HI.o.mono ?_;rintro e w1 ⟨rfl,hb⟩;have hb2:=then_ HB.o hb;have hr:w1.heap[w.heap.size]? = some (.cells #[.int .i64 0,.int .i64 0,.string ⟨#[]⟩,.slice none 0 0,.int .i64 0] 101 (0,0)):=(hb.block w.heap.size (by simp)).trans (fI w _);have z0:=fK w1 _ 0 _ _ _ hr;have z1:=fK w1 _ 1 _ _ _ hr;have z2:=fK w1 _ 2 _ _ _ hr;have z3:=fK w1 _ 3 _ _ _ hr;have z4:=fK w1 _ 4 _ _ _ hr
 have y0:=fM w1 _ 0 _ _ hr;have y1:=fM w1 _ 1 _ _ hr;have y2:=fM w1 _ 2 _ _ hr;have y3:=fM w1 _ 3 _ _ hr;have y4:=fM w1 _ 4 _ _ hr
 simp at z0 z1 z2 z3 z4;have HB2:=H9 hb2;have HR:=H9 hr
 clear hb hb2 hr;go_wp2;have hb6:=((((HB2.o.setCell (p:=⟨w.heap.size,0,none⟩) (aM _) (.int .i64 0)).setCell (p:=⟨w.heap.size,1,none⟩) (aM _) (.int .i64 0)).setCell (p:=⟨w.heap.size,2,none⟩) (aM _) (.string ⟨#[]⟩)).setCell (p:=⟨w.heap.size,3,none⟩) (aM _) (.slice none 0 0)).setCell (p:=⟨w.heap.size,4,none⟩) (aM _) (.int .i64 0);have EO:=fO _ _ 4 _ _ (.int .i64 0) (fO _ _ 3 _ _ (.slice none 0 0) (fO _ _ 2 _ _ (.string ⟨#[]⟩) (fO _ _ 1 _ _ (.int .i64 0) (fO _ _ 0 _ _ (.int .i64 0) HR.o))));generalize (((((w1.setCell ⟨w.heap.size,0,none⟩ (Value.int .i64 0)).setCell ⟨w.heap.size,1,none⟩ (Value.int .i64 0)).setCell ⟨w.heap.size,2,none⟩ (Value.string ⟨#[]⟩)).setCell ⟨w.heap.size,3,none⟩ (Value.slice none 0 0)).setCell ⟨w.heap.size,4,none⟩ (Value.int .i64 0))=w6 at hb6 EO ⊢;have r0:w6.cell? ⟨w.heap.size,0,none⟩=some (.int .i64 0):=fK w6 _ 0 _ _ _ EO;have r1:w6.cell? ⟨w.heap.size,1,none⟩=some (.int .i64 0):=fK w6 _ 1 _ _ _ EO;have r2:w6.cell? ⟨w.heap.size,2,none⟩=some (.string ⟨#[]⟩):=fK w6 _ 2 _ _ _ EO;have r3:w6.cell? ⟨w.heap.size,3,none⟩=some (.slice none 0 0):=fK w6 _ 3 _ _ _ EO;have r4:w6.cell? ⟨w.heap.size,4,none⟩=some (.int .i64 0):=fK w6 _ 4 _ _ _ EO;refine gy (v:=.tuple #[.agg #[.int .i64 0,.int .i64 0,.string ⟨#[]⟩,.slice none 0 0,.int .i64 0],.bool false]) (by simp[results,results125,go_sem,r0,r1,r2,r3,r4]) rfl ⟨rfl,hb6⟩
theorem Tp (s:Sp.St)(S:Nat->Prop)(g:Nat)(id:Int)(i:Nat)(w:World)(h:iV w S g s)(ok:Sp.Ok s)(hp:Sp.place s.l id=some i)(hi:i<s.l.length):
 Calls prog 125 #[.pointer (some ⟨g,0,none⟩),.int .i64 id] w fun e w'=>∃ao cap,e=.returned (.tuple #[.agg #[.int .i64 s.l[i].id,.int .i64 s.l[i].size,.string s.l[i].note,.slice ao s.l[i].bytes.length cap,.int .i64 s.l[i].sent],.bool true])∧iH w' ao cap s.l[i].bytes∧aj w w':=by
 have jq:=(fJ _ w).alloc (aM _) (.cells #[.int .i64 0,.int .i64 0,.string ⟨#[]⟩,.slice none 0 0,.int .i64 0] 101);have HI:=H9 (tZ s S g id _ (h.stay jq) (by have:=ok.few;omega));rw[Sp.zu hp] at HI;have HB:=H9 jq;have HA:=H9 h;have hk:=ok.all _ (aC hi);have k1:=hk.long;have k2:=hk.note;have nO:=ok.few
 have hi':(i:Int)<s.l.length:=by omega
 obtain⟨u,hu⟩:∃u,s.l[i]=u:=⟨_,rfl⟩;rw[hu] at k1 k2 ⊢;have HUE:=H9 hu;clear h ok hp jq hk hu;go_enter func125,ntmps125;go_wp2_with fail
 refine HI.o.mono ?_;rintro e w1 ⟨rfl,hb⟩;have hb2:=then_ HB.o hb;obtain⟨gu,hgu⟩:=oq.of (HA.o.stay hb2) hi;obtain⟨q,h0,h1,h2,h3,h4,hf,hIB⟩:=oq.up (HA.o.stay hb2) hgu hi;rw[HUE.o] at h0 h1 h2 h3 h4 hIB;obtain⟨cap,hcap,hc⟩:=hgu;have HC:=H9 (EM u.id u.size u.sent u.note q.bo u.bytes.length q.gK u.bytes w1 hIB rfl (by omega) (by omega));have hr:w1.heap[w.heap.size]? = some (.cells #[.int .i64 0,.int .i64 0,.string ⟨#[]⟩,.slice none 0 0,.int .i64 0] 101 (0,0)):=(hb.block w.heap.size (by simp)).trans (fI w _);have hlw:w.heap.size<w1.heap.size:=(aL.1 hr).1;have HB2:=H9 hb2;have HR:=H9 hr
 clear hb hb2 hr hf hIB HA HI HB;go_wp2_with fail
 refine HC.o.mono ?_;rintro e w3 ⟨gW,cap',rfl,hO,hb3⟩;have hb4:=then_ HB2.o hb3;have hr:=(hb3.block w.heap.size hlw).trans HR.o;have z0:=fK w3 _ 0 _ _ _ hr;have z1:=fK w3 _ 1 _ _ _ hr;have z2:=fK w3 _ 2 _ _ _ hr;have z3:=fK w3 _ 3 _ _ _ hr;have z4:=fK w3 _ 4 _ _ _ hr
 have y0:=fM w3 _ 0 _ _ hr;have y1:=fM w3 _ 1 _ _ hr;have y2:=fM w3 _ 2 _ _ hr;have y3:=fM w3 _ 3 _ _ hr;have y4:=fM w3 _ 4 _ _ hr
 simp at z0 z1 z2 z3 z4;have jK:=H9 hb4;have HR4:=H9 hr;have HO:=H9 hO
 clear hb4 hr hb3 hO HR HC;go_wp2;have hb6:=((((jK.o.setCell (p:=⟨w.heap.size,0,none⟩) (aM _) (.int .i64 u.id)).setCell (p:=⟨w.heap.size,1,none⟩) (aM _) (.int .i64 u.size)).setCell (p:=⟨w.heap.size,2,none⟩) (aM _) (.string u.note)).setCell (p:=⟨w.heap.size,3,none⟩) (aM _) (.slice gW u.bytes.length cap')).setCell (p:=⟨w.heap.size,4,none⟩) (aM _) (.int .i64 u.sent);have EO:=fO _ _ 4 _ _ (.int .i64 u.sent) (fO _ _ 3 _ _ (.slice gW u.bytes.length cap') (fO _ _ 2 _ _ (.string u.note) (fO _ _ 1 _ _ (.int .i64 u.size) (fO _ _ 0 _ _ (.int .i64 u.id) HR4.o))));have vI:=(HO.o.turns (mM w.heap.size [.int .i64 u.id,.int .i64 u.size,.string u.note,.slice gW u.bytes.length cap',.int .i64 u.sent] 0 w3) (fun k e h=>by subst h;omega)).xg;change iH (((((w3.setCell ⟨w.heap.size,0,none⟩ (Value.int .i64 u.id)).setCell ⟨w.heap.size,1,none⟩ (Value.int .i64 u.size)).setCell ⟨w.heap.size,2,none⟩ (Value.string u.note)).setCell ⟨w.heap.size,3,none⟩ (Value.slice gW u.bytes.length cap')).setCell ⟨w.heap.size,4,none⟩ (Value.int .i64 u.sent)) _ _ _ at vI;generalize (((((w3.setCell ⟨w.heap.size,0,none⟩ (Value.int .i64 u.id)).setCell ⟨w.heap.size,1,none⟩ (Value.int .i64 u.size)).setCell ⟨w.heap.size,2,none⟩ (Value.string u.note)).setCell ⟨w.heap.size,3,none⟩ (Value.slice gW u.bytes.length cap')).setCell ⟨w.heap.size,4,none⟩ (Value.int .i64 u.sent))=w6 at hb6 EO vI ⊢;have r0:w6.cell? ⟨w.heap.size,0,none⟩=some (.int .i64 u.id):=fK w6 _ 0 _ _ _ EO;have r1:w6.cell? ⟨w.heap.size,1,none⟩=some (.int .i64 u.size):=fK w6 _ 1 _ _ _ EO;have r2:w6.cell? ⟨w.heap.size,2,none⟩=some (.string u.note):=fK w6 _ 2 _ _ _ EO;have r3:w6.cell? ⟨w.heap.size,3,none⟩=some (.slice gW u.bytes.length cap'):=fK w6 _ 3 _ _ _ EO;have r4:w6.cell? ⟨w.heap.size,4,none⟩=some (.int .i64 u.sent):=fK w6 _ 4 _ _ _ EO;refine gy (v:=.tuple #[.agg #[.int .i64 u.id,.int .i64 u.size,.string u.note,.slice gW u.bytes.length cap',.int .i64 u.sent],.bool true]) (by simp[results,results125,go_sem,r0,r1,r2,r3,r4]) rfl ⟨gW,cap',rfl,vI,hb6⟩
theorem xU {x:Jn.E}(h:Jn.fits x=false):su x=([],1):=by unfold su;rw[if_neg (by simp[h])]
theorem uY {x:Jn.E}(h:Jn.fits x=true):su x=(Jn.enc x,0):=by unfold su;rw[if_pos h]
theorem Ac {s:Sp.St}(ok:Sp.Ok s):EN s.l:=Sp.Ok.small ok
theorem WW (s:Sr.Sh)(S:Nat->Prop)(g b1:Nat)(x:Jn.E)(ta:ak)(tn tc:Nat)(r:Sp.St×Nat)(w:World)(h:iI w S g s)(ok:Sr.Ok s)(hT:iH w ta tc x.text)(hn:x.text.length=tn)
 (hF:∀W g',aj w W->w.heap.size+1<=W.heap.size->iV W (fun k=>w.heap.size+1<=k) g' s.h->Calls prog 174 #[.pointer (some ⟨g',0,none⟩),.pointer (some ⟨b1,0,none⟩)] W (Did (fun k=>w.heap.size+1<=k) 104 W g' r)) :
 Calls prog 159 #[.pointer (some ⟨g,0,none⟩),.agg #[.int .i64 x.kind,.int .i64 x.id,.int .i64 x.n,.slice ta tn tc],.func (.func 174) #[] #[.pointer (some ⟨b1,0,none⟩)]] w (jh S w g (Sr.write s r x)):=by
 obtain⟨gs,gl,ao,ca,P,hI⟩:=h;have jq:=(fJ _ w).alloc (aM _) (.cells #[.int .i64 x.kind,.int .i64 x.id,.int .i64 x.n,.slice ta tn tc] 217);have hI1:=hI.stay jq;obtain⟨⟨c0,c1⟩,_⟩:=qm hI1.row;have HC:=H9 (xR s.h P gs _ hI1.wG (Ac ok.h));have HI:=H9 hI;have oH:=H9 jq;have HF:=H9 hF;have HT:=H9 hT
 have hlt:=hI.lt;clear hI hI1 jq hF hT;go_enter func159,ntmps159;go_wp2_with fail
 refine HC.o.mono ?_;rintro e w2 ⟨g',rfl,hS2,hb2⟩;have hB2:aj w w2:=then_ oH.o hb2;have HD:=H9 (HF.o w2 g' hB2 (by have:=hb2.size;simpa using this) (hS2.mono (fun k _ e=>by simpa using e)));have HB2:=H9 hB2;have Hb2:=H9 hb2
 clear hS2 hb2 hB2 HC HF c0 c1;go_wp2_with fail
 refine HD.o.mono ?_;intro e w3 hd;have hsz2:=Hb2.o.size;have hs3:w.heap.size+1<=w2.heap.size:=by simpa using hsz2
 obtain⟨he,M7,hb3⟩:=hd.ZF hs3;have hbx:Below (w.heap.size+1) (w.alloc (.cells #[.int .i64 x.kind,.int .i64 x.id,.int .i64 x.n,.slice ta tn tc] 217)) w3:=(Hb2.o.mono (by simp)).trans hb3;have hB3:aj w w3:=HB2.o.trans (hb3.mono (Nat.le_succ _));obtain⟨x0,x1,x2,x3⟩:=EP (Nat.lt_succ_self _) hbx;have HB3:=H9 hB3;have Jg:=H9 M7
 clear hd M7 hb3 hbx hB3 hsz2 hs3 HD HB2 Hb2;subst he;by_cases hc:r.2=0
 . have HX:=H9 (uX x ta tn tc w3 (HT.o.stay HB3.o) hn);rw[hc];cases hf:Jn.fits x with
   | false =>
     have HR:Hid (∀W,aj w W->jh S w g (Sr.write s r x) (.returned (.int .i64 (1:Nat))) W):=fun W hb=>jh.none_ ⟨gs,gl,ao,ca,P,HI.o⟩ hb (Sr.xu hc hf);unfold qM at HX;rw[xU hf] at HX;clear hc hf HI;go_wp2_with fail
     refine HX.o.mono ?_;rintro e w4 ⟨xS,IC,rfl,_,hb4⟩;have jK:=H9 (then_ HB3.o hb4);clear hb4;go_wp2;go_ret;exact HR.o _ jK.o
   | true =>
     unfold qM at HX;rw[uY hf] at HX;have hlx:(Jn.enc x).length<=1048600:=by have:=Jn.CX hf;have:=Jn.xq hf;omega
     by_cases hl:100000<s.log.length+(Jn.enc x).length
     . have HR:Hid (∀W,aj w W->jh S w g (Sr.write s r x) (.returned (.int .i64 (16:Nat))) W):=fun W hb=>jh.none_ ⟨gs,gl,ao,ca,P,HI.o⟩ hb (Sr.uF hc hf hl);have HL:=H9 (show ¬s.log.length+(Jn.enc x).length<=100000 by omega);clear hc hf hl;generalize Jn.enc x=y at *;go_wp2_with fail
       refine HX.o.mono ?_;rintro e w4 ⟨xS,IC,rfl,_,hb4⟩;have hB4:=then_ HB3.o hb4;have yX:=HI.o.stay hB4;obtain⟨⟨c0,c1⟩,_⟩:=qm yX.row;have HW:=H9 (sO yX.log xS IC y.length HL.o);have jK:=H9 hB4;clear hb4 hB4 yX;go_wp2_with fail
       refine HW.o.mono ?_;rintro e w5 ⟨rfl,JE⟩;rw[JE];clear JE;go_wp2;go_ret;exact HR.o _ jK.o
     . have HR:Hid (∀W,iI W (gN S w) g ⟨r.1,s.log++Jn.enc x,s.sure⟩->Turns S w W->jh S w g (Sr.write s r x) (.returned (.int .i64 0)) W):=fun W h1 h2=>by
        rw[Sr.xw hc hf hl];exact⟨rfl,h1,h2⟩
       have HL:=H9 (show s.log.length+(Jn.enc x).length<=100000 by omega);clear hc hf hl;generalize Jn.enc x=y at *;go_wp2_with fail
       refine HX.o.mono ?_;rintro e w4 ⟨xS,IC,rfl,hO4,hb4⟩;have hB4:=then_ HB3.o hb4;have yX:=HI.o.stay hB4;obtain⟨⟨c0,c1⟩,_⟩:=qm yX.row;have HW:=H9 (qG yX.log xS IC y.length y hO4.xg rfl HL.o);have HS4:=H9 (((Jg.o.stay hb4).mono (S':=fun k=>w.heap.size<=k) (fun k _ e=>Nat.le_of_succ_le e)));have jK:=H9 hB4;clear hb4 hB4 yX hO4;go_wp2_with fail
       refine HW.o.mono ?_;rintro e w5 ⟨CF,ca5,rfl,hL5,Ti,wR⟩;obtain⟨sj,hA,WX⟩:=HI.o.laid jK.o HS4.o hL5 Ti wR;obtain⟨⟨y0,y1⟩,z0,z1⟩:=qm sj;have HA:=H9 hA;have HTu:=H9 WX
       clear hL5 Ti wR sj hA WX c0 c1;go_wp2;go_ret;exact HR.o _ HA.o HTu.o
 . have HR:Hid (jh S w g (Sr.write s r x) (.returned (.int .i64 (r.2:Int))) w3):=jh.none_ ⟨gs,gl,ao,ca,P,HI.o⟩ HB3.o (Sr.uE hc);have hc':¬(r.2:Int)=0:=by omega
   clear hc;generalize (r.2:Int)=rc at *;go_wp2;go_ret;exact HR.o
theorem WY (s:Sr.Sh)(S:Nat->Prop)(g b1 b2:Nat)(x:Jn.E)(ta:ak)(tn tc:Nat)(r:Sp.St×Nat)(w:World)(h:iI w S g s)(ok:Sr.Ok s)(hT:iH w ta tc x.text)(hn:x.text.length=tn)
 (hF:∀W g',aj w W->w.heap.size+1<=W.heap.size->iV W (fun k=>w.heap.size+1<=k) g' s.h->Calls prog 172 #[.pointer (some ⟨g',0,none⟩),.pointer (some ⟨b1,0,none⟩),.pointer (some ⟨b2,0,none⟩)] W (Did (fun k=>w.heap.size+1<=k) 104 W g' r)) :
 Calls prog 159 #[.pointer (some ⟨g,0,none⟩),.agg #[.int .i64 x.kind,.int .i64 x.id,.int .i64 x.n,.slice ta tn tc],.func (.func 172) #[] #[.pointer (some ⟨b1,0,none⟩),.pointer (some ⟨b2,0,none⟩)]] w (jh S w g (Sr.write s r x)):=by
 obtain⟨gs,gl,ao,ca,P,hI⟩:=h;have jq:=(fJ _ w).alloc (aM _) (.cells #[.int .i64 x.kind,.int .i64 x.id,.int .i64 x.n,.slice ta tn tc] 217);have hI1:=hI.stay jq;obtain⟨⟨c0,c1⟩,_⟩:=qm hI1.row;have HC:=H9 (xR s.h P gs _ hI1.wG (Ac ok.h));have HI:=H9 hI;have oH:=H9 jq;have HF:=H9 hF;have HT:=H9 hT
 have hlt:=hI.lt;clear hI hI1 jq hF hT;go_enter func159,ntmps159;go_wp2_with fail
 refine HC.o.mono ?_;rintro e w2 ⟨g',rfl,hS2,hb2⟩;have hB2:aj w w2:=then_ oH.o hb2;have HD:=H9 (HF.o w2 g' hB2 (by have:=hb2.size;simpa using this) (hS2.mono (fun k _ e=>by simpa using e)));have HB2:=H9 hB2;have Hb2:=H9 hb2
 clear hS2 hb2 hB2 HC HF c0 c1;go_wp2_with fail
 refine HD.o.mono ?_;intro e w3 hd;have hsz2:=Hb2.o.size;have hs3:w.heap.size+1<=w2.heap.size:=by simpa using hsz2
 obtain⟨he,M7,hb3⟩:=hd.ZF hs3;have hbx:Below (w.heap.size+1) (w.alloc (.cells #[.int .i64 x.kind,.int .i64 x.id,.int .i64 x.n,.slice ta tn tc] 217)) w3:=(Hb2.o.mono (by simp)).trans hb3;have hB3:aj w w3:=HB2.o.trans (hb3.mono (Nat.le_succ _));obtain⟨x0,x1,x2,x3⟩:=EP (Nat.lt_succ_self _) hbx;have HB3:=H9 hB3;have Jg:=H9 M7
 clear hd M7 hb3 hbx hB3 hsz2 hs3 HD HB2 Hb2;subst he;by_cases hc:r.2=0
 . have HX:=H9 (uX x ta tn tc w3 (HT.o.stay HB3.o) hn);rw[hc];cases hf:Jn.fits x with
   | false =>
     have HR:Hid (∀W,aj w W->jh S w g (Sr.write s r x) (.returned (.int .i64 (1:Nat))) W):=fun W hb=>jh.none_ ⟨gs,gl,ao,ca,P,HI.o⟩ hb (Sr.xu hc hf);unfold qM at HX;rw[xU hf] at HX;clear hc hf HI;go_wp2_with fail
     refine HX.o.mono ?_;rintro e w4 ⟨xS,IC,rfl,_,hb4⟩;have jK:=H9 (then_ HB3.o hb4);clear hb4;go_wp2;go_ret;exact HR.o _ jK.o
   | true =>
     unfold qM at HX;rw[uY hf] at HX;have hlx:(Jn.enc x).length<=1048600:=by have:=Jn.CX hf;have:=Jn.xq hf;omega
     by_cases hl:100000<s.log.length+(Jn.enc x).length
     . have HR:Hid (∀W,aj w W->jh S w g (Sr.write s r x) (.returned (.int .i64 (16:Nat))) W):=fun W hb=>jh.none_ ⟨gs,gl,ao,ca,P,HI.o⟩ hb (Sr.uF hc hf hl);have HL:=H9 (show ¬s.log.length+(Jn.enc x).length<=100000 by omega);clear hc hf hl;generalize Jn.enc x=y at *;go_wp2_with fail
       refine HX.o.mono ?_;rintro e w4 ⟨xS,IC,rfl,_,hb4⟩;have hB4:=then_ HB3.o hb4;have yX:=HI.o.stay hB4;obtain⟨⟨c0,c1⟩,_⟩:=qm yX.row;have HW:=H9 (sO yX.log xS IC y.length HL.o);have jK:=H9 hB4;clear hb4 hB4 yX;go_wp2_with fail
       refine HW.o.mono ?_;rintro e w5 ⟨rfl,JE⟩;rw[JE];clear JE;go_wp2;go_ret;exact HR.o _ jK.o
     . have HR:Hid (∀W,iI W (gN S w) g ⟨r.1,s.log++Jn.enc x,s.sure⟩->Turns S w W->jh S w g (Sr.write s r x) (.returned (.int .i64 0)) W):=fun W h1 h2=>by
        rw[Sr.xw hc hf hl];exact⟨rfl,h1,h2⟩
       have HL:=H9 (show s.log.length+(Jn.enc x).length<=100000 by omega);clear hc hf hl;generalize Jn.enc x=y at *;go_wp2_with fail
       refine HX.o.mono ?_;rintro e w4 ⟨xS,IC,rfl,hO4,hb4⟩;have hB4:=then_ HB3.o hb4;have yX:=HI.o.stay hB4;obtain⟨⟨c0,c1⟩,_⟩:=qm yX.row;have HW:=H9 (qG yX.log xS IC y.length y hO4.xg rfl HL.o);have HS4:=H9 (((Jg.o.stay hb4).mono (S':=fun k=>w.heap.size<=k) (fun k _ e=>Nat.le_of_succ_le e)));have jK:=H9 hB4;clear hb4 hB4 yX hO4;go_wp2_with fail
       refine HW.o.mono ?_;rintro e w5 ⟨CF,ca5,rfl,hL5,Ti,wR⟩;obtain⟨sj,hA,WX⟩:=HI.o.laid jK.o HS4.o hL5 Ti wR;obtain⟨⟨y0,y1⟩,z0,z1⟩:=qm sj;have HA:=H9 hA;have HTu:=H9 WX
       clear hL5 Ti wR sj hA WX c0 c1;go_wp2;go_ret;exact HR.o _ HA.o HTu.o
 . have HR:Hid (jh S w g (Sr.write s r x) (.returned (.int .i64 (r.2:Int))) w3):=jh.none_ ⟨gs,gl,ao,ca,P,HI.o⟩ HB3.o (Sr.uE hc);have hc':¬(r.2:Int)=0:=by omega
   clear hc;generalize (r.2:Int)=rc at *;go_wp2;go_ret;exact HR.o
theorem WZ (s:Sr.Sh)(S:Nat->Prop)(g b1 b2 b3:Nat)(x:Jn.E)(ta:ak)(tn tc:Nat)(r:Sp.St×Nat)(w:World)(h:iI w S g s)(ok:Sr.Ok s)(hT:iH w ta tc x.text)(hn:x.text.length=tn)
 (hF:∀W g',aj w W->w.heap.size+1<=W.heap.size->iV W (fun k=>w.heap.size+1<=k) g' s.h->Calls prog 170 #[.pointer (some ⟨g',0,none⟩),.pointer (some ⟨b1,0,none⟩),.pointer (some ⟨b2,0,none⟩),.pointer (some ⟨b3,0,none⟩)] W (Did (fun k=>w.heap.size+1<=k) 104 W g' r)) :
 Calls prog 159 #[.pointer (some ⟨g,0,none⟩),.agg #[.int .i64 x.kind,.int .i64 x.id,.int .i64 x.n,.slice ta tn tc],.func (.func 170) #[] #[.pointer (some ⟨b1,0,none⟩),.pointer (some ⟨b2,0,none⟩),.pointer (some ⟨b3,0,none⟩)]] w (jh S w g (Sr.write s r x)):=by
 obtain⟨gs,gl,ao,ca,P,hI⟩:=h;have jq:=(fJ _ w).alloc (aM _) (.cells #[.int .i64 x.kind,.int .i64 x.id,.int .i64 x.n,.slice ta tn tc] 217);have hI1:=hI.stay jq;obtain⟨⟨c0,c1⟩,_⟩:=qm hI1.row;have HC:=H9 (xR s.h P gs _ hI1.wG (Ac ok.h));have HI:=H9 hI;have oH:=H9 jq;have HF:=H9 hF;have HT:=H9 hT
 have hlt:=hI.lt;clear hI hI1 jq hF hT;go_enter func159,ntmps159;go_wp2_with fail
 refine HC.o.mono ?_;rintro e w2 ⟨g',rfl,hS2,hb2⟩;have hB2:aj w w2:=then_ oH.o hb2;have HD:=H9 (HF.o w2 g' hB2 (by have:=hb2.size;simpa using this) (hS2.mono (fun k _ e=>by simpa using e)));have HB2:=H9 hB2;have Hb2:=H9 hb2
 clear hS2 hb2 hB2 HC HF c0 c1;go_wp2_with fail
 refine HD.o.mono ?_;intro e w3 hd;have hsz2:=Hb2.o.size;have hs3:w.heap.size+1<=w2.heap.size:=by simpa using hsz2
 obtain⟨he,M7,hb3⟩:=hd.ZF hs3;have hbx:Below (w.heap.size+1) (w.alloc (.cells #[.int .i64 x.kind,.int .i64 x.id,.int .i64 x.n,.slice ta tn tc] 217)) w3:=(Hb2.o.mono (by simp)).trans hb3;have hB3:aj w w3:=HB2.o.trans (hb3.mono (Nat.le_succ _));obtain⟨x0,x1,x2,x3⟩:=EP (Nat.lt_succ_self _) hbx;have HB3:=H9 hB3;have Jg:=H9 M7
 clear hd M7 hb3 hbx hB3 hsz2 hs3 HD HB2 Hb2;subst he;by_cases hc:r.2=0
 . have HX:=H9 (uX x ta tn tc w3 (HT.o.stay HB3.o) hn);rw[hc];cases hf:Jn.fits x with
   | false =>
     have HR:Hid (∀W,aj w W->jh S w g (Sr.write s r x) (.returned (.int .i64 (1:Nat))) W):=fun W hb=>jh.none_ ⟨gs,gl,ao,ca,P,HI.o⟩ hb (Sr.xu hc hf);unfold qM at HX;rw[xU hf] at HX;clear hc hf HI;go_wp2_with fail
     refine HX.o.mono ?_;rintro e w4 ⟨xS,IC,rfl,_,hb4⟩;have jK:=H9 (then_ HB3.o hb4);clear hb4;go_wp2;go_ret;exact HR.o _ jK.o
   | true =>
     unfold qM at HX;rw[uY hf] at HX;have hlx:(Jn.enc x).length<=1048600:=by have:=Jn.CX hf;have:=Jn.xq hf;omega
     by_cases hl:100000<s.log.length+(Jn.enc x).length
     . have HR:Hid (∀W,aj w W->jh S w g (Sr.write s r x) (.returned (.int .i64 (16:Nat))) W):=fun W hb=>jh.none_ ⟨gs,gl,ao,ca,P,HI.o⟩ hb (Sr.uF hc hf hl);have HL:=H9 (show ¬s.log.length+(Jn.enc x).length<=100000 by omega);clear hc hf hl;generalize Jn.enc x=y at *;go_wp2_with fail
       refine HX.o.mono ?_;rintro e w4 ⟨xS,IC,rfl,_,hb4⟩;have hB4:=then_ HB3.o hb4;have yX:=HI.o.stay hB4;obtain⟨⟨c0,c1⟩,_⟩:=qm yX.row;have HW:=H9 (sO yX.log xS IC y.length HL.o);have jK:=H9 hB4;clear hb4 hB4 yX;go_wp2_with fail
       refine HW.o.mono ?_;rintro e w5 ⟨rfl,JE⟩;rw[JE];clear JE;go_wp2;go_ret;exact HR.o _ jK.o
     . have HR:Hid (∀W,iI W (gN S w) g ⟨r.1,s.log++Jn.enc x,s.sure⟩->Turns S w W->jh S w g (Sr.write s r x) (.returned (.int .i64 0)) W):=fun W h1 h2=>by
        rw[Sr.xw hc hf hl];exact⟨rfl,h1,h2⟩
       have HL:=H9 (show s.log.length+(Jn.enc x).length<=100000 by omega);clear hc hf hl;generalize Jn.enc x=y at *;go_wp2_with fail
       refine HX.o.mono ?_;rintro e w4 ⟨xS,IC,rfl,hO4,hb4⟩;have hB4:=then_ HB3.o hb4;have yX:=HI.o.stay hB4;obtain⟨⟨c0,c1⟩,_⟩:=qm yX.row;have HW:=H9 (qG yX.log xS IC y.length y hO4.xg rfl HL.o);have HS4:=H9 (((Jg.o.stay hb4).mono (S':=fun k=>w.heap.size<=k) (fun k _ e=>Nat.le_of_succ_le e)));have jK:=H9 hB4;clear hb4 hB4 yX hO4;go_wp2_with fail
       refine HW.o.mono ?_;rintro e w5 ⟨CF,ca5,rfl,hL5,Ti,wR⟩;obtain⟨sj,hA,WX⟩:=HI.o.laid jK.o HS4.o hL5 Ti wR;obtain⟨⟨y0,y1⟩,z0,z1⟩:=qm sj;have HA:=H9 hA;have HTu:=H9 WX
       clear hL5 Ti wR sj hA WX c0 c1;go_wp2;go_ret;exact HR.o _ HA.o HTu.o
 . have HR:Hid (jh S w g (Sr.write s r x) (.returned (.int .i64 (r.2:Int))) w3):=jh.none_ ⟨gs,gl,ao,ca,P,HI.o⟩ HB3.o (Sr.uE hc);have hc':¬(r.2:Int)=0:=by omega
   clear hc;generalize (r.2:Int)=rc at *;go_wp2;go_ret;exact HR.o
theorem W9 (s:Sr.Sh)(S:Nat->Prop)(g b1 b2:Nat)(x:Jn.E)(ta:ak)(tn tc:Nat)(r:Sp.St×Nat)(w:World)(h:iI w S g s)(ok:Sr.Ok s)(hT:iH w ta tc x.text)(hn:x.text.length=tn)
 (hF:∀W g',aj w W->w.heap.size+1<=W.heap.size->iV W (fun k=>w.heap.size+1<=k) g' s.h->Calls prog 160 #[.pointer (some ⟨g',0,none⟩),.pointer (some ⟨b1,0,none⟩),.pointer (some ⟨b2,0,none⟩)] W (Did (fun k=>w.heap.size+1<=k) 104 W g' r)) :
 Calls prog 159 #[.pointer (some ⟨g,0,none⟩),.agg #[.int .i64 x.kind,.int .i64 x.id,.int .i64 x.n,.slice ta tn tc],.func (.func 160) #[] #[.pointer (some ⟨b1,0,none⟩),.pointer (some ⟨b2,0,none⟩)]] w (jh S w g (Sr.write s r x)):=by
 obtain⟨gs,gl,ao,ca,P,hI⟩:=h;have jq:=(fJ _ w).alloc (aM _) (.cells #[.int .i64 x.kind,.int .i64 x.id,.int .i64 x.n,.slice ta tn tc] 217);have hI1:=hI.stay jq;obtain⟨⟨c0,c1⟩,_⟩:=qm hI1.row;have HC:=H9 (xR s.h P gs _ hI1.wG (Ac ok.h));have HI:=H9 hI;have oH:=H9 jq;have HF:=H9 hF;have HT:=H9 hT
 have hlt:=hI.lt;clear hI hI1 jq hF hT;go_enter func159,ntmps159;go_wp2_with fail
 refine HC.o.mono ?_;rintro e w2 ⟨g',rfl,hS2,hb2⟩;have hB2:aj w w2:=then_ oH.o hb2;have HD:=H9 (HF.o w2 g' hB2 (by have:=hb2.size;simpa using this) (hS2.mono (fun k _ e=>by simpa using e)));have HB2:=H9 hB2;have Hb2:=H9 hb2
 clear hS2 hb2 hB2 HC HF c0 c1;go_wp2_with fail
 refine HD.o.mono ?_;intro e w3 hd;have hsz2:=Hb2.o.size;have hs3:w.heap.size+1<=w2.heap.size:=by simpa using hsz2
 obtain⟨he,M7,hb3⟩:=hd.ZF hs3;have hbx:Below (w.heap.size+1) (w.alloc (.cells #[.int .i64 x.kind,.int .i64 x.id,.int .i64 x.n,.slice ta tn tc] 217)) w3:=(Hb2.o.mono (by simp)).trans hb3;have hB3:aj w w3:=HB2.o.trans (hb3.mono (Nat.le_succ _));obtain⟨x0,x1,x2,x3⟩:=EP (Nat.lt_succ_self _) hbx;have HB3:=H9 hB3;have Jg:=H9 M7
 clear hd M7 hb3 hbx hB3 hsz2 hs3 HD HB2 Hb2;subst he;by_cases hc:r.2=0
 . have HX:=H9 (uX x ta tn tc w3 (HT.o.stay HB3.o) hn);rw[hc];cases hf:Jn.fits x with
   | false =>
     have HR:Hid (∀W,aj w W->jh S w g (Sr.write s r x) (.returned (.int .i64 (1:Nat))) W):=fun W hb=>jh.none_ ⟨gs,gl,ao,ca,P,HI.o⟩ hb (Sr.xu hc hf);unfold qM at HX;rw[xU hf] at HX;clear hc hf HI;go_wp2_with fail
     refine HX.o.mono ?_;rintro e w4 ⟨xS,IC,rfl,_,hb4⟩;have jK:=H9 (then_ HB3.o hb4);clear hb4;go_wp2;go_ret;exact HR.o _ jK.o
   | true =>
     unfold qM at HX;rw[uY hf] at HX;have hlx:(Jn.enc x).length<=1048600:=by have:=Jn.CX hf;have:=Jn.xq hf;omega
     by_cases hl:100000<s.log.length+(Jn.enc x).length
     . have HR:Hid (∀W,aj w W->jh S w g (Sr.write s r x) (.returned (.int .i64 (16:Nat))) W):=fun W hb=>jh.none_ ⟨gs,gl,ao,ca,P,HI.o⟩ hb (Sr.uF hc hf hl);have HL:=H9 (show ¬s.log.length+(Jn.enc x).length<=100000 by omega);clear hc hf hl;generalize Jn.enc x=y at *;go_wp2_with fail
       refine HX.o.mono ?_;rintro e w4 ⟨xS,IC,rfl,_,hb4⟩;have hB4:=then_ HB3.o hb4;have yX:=HI.o.stay hB4;obtain⟨⟨c0,c1⟩,_⟩:=qm yX.row;have HW:=H9 (sO yX.log xS IC y.length HL.o);have jK:=H9 hB4;clear hb4 hB4 yX;go_wp2_with fail
       refine HW.o.mono ?_;rintro e w5 ⟨rfl,JE⟩;rw[JE];clear JE;go_wp2;go_ret;exact HR.o _ jK.o
     . have HR:Hid (∀W,iI W (gN S w) g ⟨r.1,s.log++Jn.enc x,s.sure⟩->Turns S w W->jh S w g (Sr.write s r x) (.returned (.int .i64 0)) W):=fun W h1 h2=>by
        rw[Sr.xw hc hf hl];exact⟨rfl,h1,h2⟩
       have HL:=H9 (show s.log.length+(Jn.enc x).length<=100000 by omega);clear hc hf hl;generalize Jn.enc x=y at *;go_wp2_with fail
       refine HX.o.mono ?_;rintro e w4 ⟨xS,IC,rfl,hO4,hb4⟩;have hB4:=then_ HB3.o hb4;have yX:=HI.o.stay hB4;obtain⟨⟨c0,c1⟩,_⟩:=qm yX.row;have HW:=H9 (qG yX.log xS IC y.length y hO4.xg rfl HL.o);have HS4:=H9 (((Jg.o.stay hb4).mono (S':=fun k=>w.heap.size<=k) (fun k _ e=>Nat.le_of_succ_le e)));have jK:=H9 hB4;clear hb4 hB4 yX hO4;go_wp2_with fail
       refine HW.o.mono ?_;rintro e w5 ⟨CF,ca5,rfl,hL5,Ti,wR⟩;obtain⟨sj,hA,WX⟩:=HI.o.laid jK.o HS4.o hL5 Ti wR;obtain⟨⟨y0,y1⟩,z0,z1⟩:=qm sj;have HA:=H9 hA;have HTu:=H9 WX
       clear hL5 Ti wR sj hA WX c0 c1;go_wp2;go_ret;exact HR.o _ HA.o HTu.o
 . have HR:Hid (jh S w g (Sr.write s r x) (.returned (.int .i64 (r.2:Int))) w3):=jh.none_ ⟨gs,gl,ao,ca,P,HI.o⟩ HB3.o (Sr.uE hc);have hc':¬(r.2:Int)=0:=by omega
   clear hc;generalize (r.2:Int)=rc at *;go_wp2;go_ret;exact HR.o
theorem Bd (w:World):
 Calls prog 8 #[] w fun e w'=>∃g,e=.returned (.pointer (some ⟨g,0,none⟩))∧iI w' (fun k=>w.heap.size<=k) g Sr.new∧aj w w':=by
 have H0:=H9 (Xa w);have H1:=H9 (fun W=>NT W);go_enter func8,ntmps8;go_wp2_with fail
 refine H0.o.mono ?_;rintro e w1 ⟨rfl,hS,hb⟩;have hs:=hS.lt;have HS:=H9 hS;have HB:=H9 hb
 clear hS hb;go_wp2_with fail
 refine(H1.o w1).mono ?_;rintro e w2 ⟨rfl,hL,hb2⟩;have hs2:=hL.lt;have hz:=hb2.size;have hsz:=HB.o.size;have HB2:=H9 (then_ HB.o hb2);have HX:Hid (iI (w2.alloc (.cells #[.pointer (some ⟨w.heap.size,0,none⟩),.pointer (some ⟨w1.heap.size,0,none⟩)] 45)) (fun k=>w.heap.size<=k) w2.heap.size Sr.new∧aj w (w2.alloc (.cells #[.pointer (some ⟨w.heap.size,0,none⟩),.pointer (some ⟨w1.heap.size,0,none⟩)] 45))):=by
  have jq:=(fJ _ w2).alloc (aM _) (.cells #[.pointer (some ⟨w.heap.size,0,none⟩),.pointer (some ⟨w1.heap.size,0,none⟩)] 45);have hl0:kQ w2 0 w1.heap.size [] 0 none 0:=⟨hL.row,iF.nil _ _ _,aA _,hL.le,hL.few⟩;refine⟨⟨w.heap.size,w1.heap.size,none,0,fun k=>w.heap.size<=k∧k<w1.heap.size,fI w2 _,((HS.o.mono (S':=fun k=>w.heap.size<=k∧k<w1.heap.size) (fun k hk e=>⟨e,hk⟩)).stay hb2).stay jq,hl0.stay jq,HB2.o.size,fun k e=>⟨e.1,by omega,fun e2=>?_⟩,fun k e=>?_⟩,then_ HB2.o jq⟩
  . rcases e2 with e2 | e2
    . omega
    . cases e2
  . rcases e with e | e
    . exact⟨by show w.heap.size<=k;omega,by omega⟩
    . cases e
 clear hL hb2 hz hsz HB HB2 HS;go_wp2;go_ret;exact⟨_,rfl,HX.o.1,HX.o.2⟩
section
variable {s:Sr.Sh} {S:Nat->Prop} {g:Nat} {w:World}
theorem uS.turned {w':World}{gs gl:Nat}{ao:ak}{ca:Nat}{P:Nat->Prop}{V9:av}{Lb:Nat}(h:uS w S g gs gl ao ca P s)(hL:kQ w' 0 gl V9 Lb ao ca)(ht:Turns (fun k=>k=gl) w w'):uS w' S g gs gl ao ca P ⟨s.h,V9,Lb⟩∧Turns S w w' :=
 ⟨⟨ht.row h.row (fun e=>(h.Qt gl (Or.inl rfl)).2 e.symm),h.wG.turns ht (fun k e e2=>(h.inP k e).2.2 (Or.inl e2)),hL,h.self,h.inP,h.Qt⟩,ht.mono (fun k e=>by subst e;exact(h.Qt _ (Or.inl rfl)).1)⟩
theorem oU (h:iI w S g s):
 Calls prog 121 #[.pointer (some ⟨g,0,none⟩)] w fun e w'=>e=.returned (.tuple #[])∧iI w' S g (Sr.sync s)∧Turns S w w':=by
 obtain⟨gs,gl,ao,ca,P,hI⟩:=h;obtain⟨⟨c0,c1⟩,_⟩:=qm hI.row;have HR:=H9 (La hI.log);have HI:=H9 hI;clear hI;go_enter func121,ntmps121;go_wp2_with fail
 refine HR.o.mono ?_;rintro e w1 ⟨rfl,hL,ht⟩;obtain⟨h1,h2⟩:=HI.o.turned hL ht;have HX:Hid (iI w1 S g (Sr.sync s)∧Turns S w w1):=⟨⟨gs,gl,ao,ca,P,h1⟩,h2⟩;clear hL ht h1 h2;go_wp2;go_end0
 exact⟨rfl,HX.o.1,HX.o.2⟩
end
section
variable {s:Sr.Sh} {S:Nat->Prop} {g:Nat} {w:World}
theorem yY (h:iI w S g s)(ok:Sr.Ok s)(id:Int):
 Calls prog 132 #[.pointer (some ⟨g,0,none⟩),.int .i64 id] w (jh S w g (Sr.drop s id)):=by
 have hB:aj w ((w.alloc (.cells #[.int .i64 id] 3)).alloc (.cells #[.int .i64 4,.int .i64 id,.int .i64 0,.slice none 0 0] 217)):=((fJ _ _).alloc (by simp;try omega) _).alloc (by simp;try omega) _;have hc1:∀W,Below ((w.alloc (.cells #[.int .i64 id] 3)).alloc (.cells #[.int .i64 4,.int .i64 id,.int .i64 0,.slice none 0 0] 217)).heap.size ((w.alloc (.cells #[.int .i64 id] 3)).alloc (.cells #[.int .i64 4,.int .i64 id,.int .i64 0,.slice none 0 0] 217)) W->W.cell? ⟨w.heap.size,0,none⟩=some (.int .i64 id):=fun W hW=>by rw[hW.cell (p:=⟨w.heap.size,0,none⟩) (by simp;try omega)];exact kS _ _ _ _ (mQ _ _ _ _ (by simp;try omega))
 have HC:=H9 (WW s S g w.heap.size ⟨4,id,0,[]⟩ none 0 0 (Sp.drop s.h id) _ (h.stay hB) ok (iH.nil _) rfl (fun W g' hW _ hS=>Tc s.h _ g' w.heap.size id W hS ok.h (hc1 W hW)));have HB:=H9 hB;have UL:∀(fn:Fn) (first cap:Array Value) (w:World),(Instr.makeFunc fn first cap).run prog w=.ok (.func fn first cap) w:=fun _ _ _ _=>rfl;unfold Sr.drop;generalize Sr.write s _ _=r at *;clear h ok hB hc1;go_enter func132,ntmps132;go_wp2_with fail
 refine HC.o.mono ?_;intro e w2 hd;have HD:=H9 (jh.from_ HB.o hd);obtain⟨rfl,_,_⟩:=hd;go_wp2;go_ret;exact HD.o
theorem F7 (h:iI w S g s)(ok:Sr.Ok s)(id:Int)(sz:Int):
 Calls prog 131 #[.pointer (some ⟨g,0,none⟩),.int .i64 id,.int .i64 sz] w (jh S w g (Sr.declare s id sz)):=by
 have hB:aj w (((w.alloc (.cells #[.int .i64 id] 3)).alloc (.cells #[.int .i64 sz] 3)).alloc (.cells #[.int .i64 3,.int .i64 id,.int .i64 sz,.slice none 0 0] 217)):=(((fJ _ _).alloc (by simp;try omega) _).alloc (by simp;try omega) _).alloc (by simp;try omega) _;have hc1:∀W,Below (((w.alloc (.cells #[.int .i64 id] 3)).alloc (.cells #[.int .i64 sz] 3)).alloc (.cells #[.int .i64 3,.int .i64 id,.int .i64 sz,.slice none 0 0] 217)).heap.size (((w.alloc (.cells #[.int .i64 id] 3)).alloc (.cells #[.int .i64 sz] 3)).alloc (.cells #[.int .i64 3,.int .i64 id,.int .i64 sz,.slice none 0 0] 217)) W->W.cell? ⟨w.heap.size,0,none⟩=some (.int .i64 id):=fun W hW=>by rw[hW.cell (p:=⟨w.heap.size,0,none⟩) (by simp;try omega)];exact kS _ _ _ _ (kS _ _ _ _ (mQ _ _ _ _ (by simp;try omega)))
 have hc2:∀W,Below (((w.alloc (.cells #[.int .i64 id] 3)).alloc (.cells #[.int .i64 sz] 3)).alloc (.cells #[.int .i64 3,.int .i64 id,.int .i64 sz,.slice none 0 0] 217)).heap.size (((w.alloc (.cells #[.int .i64 id] 3)).alloc (.cells #[.int .i64 sz] 3)).alloc (.cells #[.int .i64 3,.int .i64 id,.int .i64 sz,.slice none 0 0] 217)) W->W.cell? ⟨w.heap.size+1,0,none⟩=some (.int .i64 sz):=fun W hW=>by rw[hW.cell (p:=⟨w.heap.size+1,0,none⟩) (by simp;try omega)];exact kS _ _ _ _ (mQ _ _ _ _ (by simp;try omega))
 have HC:=H9 (WY s S g w.heap.size (w.heap.size+1) ⟨3,id,sz,[]⟩ none 0 0 (Sp.declare s.h id sz) _ (h.stay hB) ok (iH.nil _) rfl (fun W g' hW _ hS=>Te s.h _ g' w.heap.size (w.heap.size+1) id sz W hS ok.h (hc1 W hW) (hc2 W hW)));have HB:=H9 hB;have UL:∀(fn:Fn) (first cap:Array Value) (w:World),(Instr.makeFunc fn first cap).run prog w=.ok (.func fn first cap) w:=fun _ _ _ _=>rfl;unfold Sr.declare;generalize Sr.write s _ _=r at *;clear h ok hB hc1 hc2;go_enter func131,ntmps131;go_wp2_with fail
 refine HC.o.mono ?_;intro e w2 hd;have HD:=H9 (jh.from_ HB.o hd);obtain⟨rfl,_,_⟩:=hd;go_wp2;go_ret;exact HD.o
theorem qN (h:iI w S g s)(ok:Sr.Ok s)(id:Int)(off:Int)(bo:ak)(bn bc:Nat)(l:av)(hb:iH w bo bc l)(hn:l.length=bn)(hN:bn<=1000000):
 Calls prog 130 #[.pointer (some ⟨g,0,none⟩),.int .i64 id,.int .i64 off,.slice bo bn bc] w (jh S w g (Sr.append s id off l)):=by
 have hB:aj w ((((w.alloc (.cells #[.int .i64 id] 3)).alloc (.cells #[.int .i64 off] 3)).alloc (.cells #[.slice bo bn bc] 31)).alloc (.cells #[.int .i64 2,.int .i64 id,.int .i64 0,.slice bo bn bc] 217)):=((((fJ _ _).alloc (by simp;try omega) _).alloc (by simp;try omega) _).alloc (by simp;try omega) _).alloc (by simp;try omega) _;have hc1:∀W,Below ((((w.alloc (.cells #[.int .i64 id] 3)).alloc (.cells #[.int .i64 off] 3)).alloc (.cells #[.slice bo bn bc] 31)).alloc (.cells #[.int .i64 2,.int .i64 id,.int .i64 0,.slice bo bn bc] 217)).heap.size ((((w.alloc (.cells #[.int .i64 id] 3)).alloc (.cells #[.int .i64 off] 3)).alloc (.cells #[.slice bo bn bc] 31)).alloc (.cells #[.int .i64 2,.int .i64 id,.int .i64 0,.slice bo bn bc] 217)) W->W.cell? ⟨w.heap.size,0,none⟩=some (.int .i64 id):=fun W hW=>by rw[hW.cell (p:=⟨w.heap.size,0,none⟩) (by simp;try omega)];exact kS _ _ _ _ (kS _ _ _ _ (kS _ _ _ _ (mQ _ _ _ _ (by simp;try omega))))
 have hc2:∀W,Below ((((w.alloc (.cells #[.int .i64 id] 3)).alloc (.cells #[.int .i64 off] 3)).alloc (.cells #[.slice bo bn bc] 31)).alloc (.cells #[.int .i64 2,.int .i64 id,.int .i64 0,.slice bo bn bc] 217)).heap.size ((((w.alloc (.cells #[.int .i64 id] 3)).alloc (.cells #[.int .i64 off] 3)).alloc (.cells #[.slice bo bn bc] 31)).alloc (.cells #[.int .i64 2,.int .i64 id,.int .i64 0,.slice bo bn bc] 217)) W->W.cell? ⟨w.heap.size+1,0,none⟩=some (.int .i64 off):=fun W hW=>by rw[hW.cell (p:=⟨w.heap.size+1,0,none⟩) (by simp;try omega)];exact kS _ _ _ _ (kS _ _ _ _ (mQ _ _ _ _ (by simp;try omega)))
 have hc3:∀W,Below ((((w.alloc (.cells #[.int .i64 id] 3)).alloc (.cells #[.int .i64 off] 3)).alloc (.cells #[.slice bo bn bc] 31)).alloc (.cells #[.int .i64 2,.int .i64 id,.int .i64 0,.slice bo bn bc] 217)).heap.size ((((w.alloc (.cells #[.int .i64 id] 3)).alloc (.cells #[.int .i64 off] 3)).alloc (.cells #[.slice bo bn bc] 31)).alloc (.cells #[.int .i64 2,.int .i64 id,.int .i64 0,.slice bo bn bc] 217)) W->W.cell? ⟨w.heap.size+2,0,none⟩=some (.slice bo bn bc):=fun W hW=>by rw[hW.cell (p:=⟨w.heap.size+2,0,none⟩) (by simp;try omega)];exact kS _ _ _ _ (mQ _ _ _ _ (by simp;try omega))
 have HC:=H9 (WZ s S g w.heap.size (w.heap.size+1) (w.heap.size+2) ⟨2,id,0,l⟩ bo bn bc (Sp.append s.h id off l) _ (h.stay hB) ok (hb.stay hB) hn (fun W g' hW _ hS=>Tf s.h _ g' w.heap.size (w.heap.size+1) (w.heap.size+2) id off bo bn bc l W hS ok.h (hc1 W hW) (hc2 W hW) (hc3 W hW) ((hb.stay hB).stay hW) hn hN));have HB:=H9 hB;have UL:∀(fn:Fn) (first cap:Array Value) (w:World),(Instr.makeFunc fn first cap).run prog w=.ok (.func fn first cap) w:=fun _ _ _ _=>rfl;unfold Sr.append;generalize Sr.write s _ _=r at *;clear h ok hB hc1 hc2 hc3 hb hn;go_enter func130,ntmps130;go_wp2_with fail
 refine HC.o.mono ?_;intro e w2 hd;have HD:=H9 (jh.from_ HB.o hd);obtain⟨rfl,_,_⟩:=hd;go_wp2;go_ret;exact HD.o
end
structure Xb (S:Nat->Prop)(w:World)(g:Nat)(s:Sr.Sh)(r:Sr.Sh×Nat)(e:Ending)(w':World):Prop where
 ret:e=.returned (.tuple #[.int .i64 (Sr.Du s r.2),.int .i64 (r.2:Int)])
 at_:iI w' (gN S w) g r.1
 turns:Turns S w w'
section
variable {s:Sr.Sh} {S:Nat->Prop} {g:Nat} {w:World}
theorem Ad (h:iI w S g s)(ok:Sr.Ok s)(sz:Int)(m:ay)(hm:m.size<=1000000):
 Calls prog 119 #[.pointer (some ⟨g,0,none⟩),.int .i64 sz,.string m] w (Xb S w g s (Sr.create s sz m)):=by
 have hB2:aj w ((w.alloc (.cells #[.int .i64 sz] 3)).alloc (.cells #[.string m] 9)):=((fJ _ _).alloc (aM _) _).alloc (by simp) _;have e1:((w.alloc (.cells #[.int .i64 sz] 3)).alloc (.cells #[.string m] 9)).cell? ⟨w.heap.size,0,none⟩=some (.int .i64 sz):=kS _ _ _ _ (mQ _ _ _ _ rfl);have e2:((w.alloc (.cells #[.int .i64 sz] 3)).alloc (.cells #[.string m] 9)).cell? ⟨w.heap.size+1,0,none⟩=some (.string m):=mQ _ _ _ _ (by simp);have hs2:((w.alloc (.cells #[.int .i64 sz] 3)).alloc (.cells #[.string m] 9)).heap.size=w.heap.size+2:=by simp
 obtain⟨W2,hW2⟩:∃W,((w.alloc (.cells #[.int .i64 sz] 3)).alloc (.cells #[.string m] 9))=W:=⟨_,rfl⟩;rw[hW2] at hB2 e1 e2 hs2;have h2:=h.stay hB2;obtain⟨gs,gl,ao,ca,P,hI⟩:=h2;obtain⟨⟨c0,c1⟩,_⟩:=qm hI.row;have hl:=ok.Km;have HN:=H9 (Iw s.h P gs W2 hI.wG ok.h.Dn (by omega));obtain⟨bc,W3,hcv,hb3,hs3,hIB⟩:=zm (P:=prog) W2 m 9 31 5 underlying9 underlying31 underlying5;have hB3:=then_ hB2 hb3;have jq:=(fJ _ W3).alloc (aM _) (.cells #[.int .i64 1,.int .i64 (s.h.last+1),.int .i64 sz,.slice (some ⟨W2.heap.size,0,none⟩) m.size bc] 217);have hB4:=then_ hB3 jq;have hc1:∀W,Below (W3.alloc (.cells #[.int .i64 1,.int .i64 (s.h.last+1),.int .i64 sz,.slice (some ⟨W2.heap.size,0,none⟩) m.size bc] 217)).heap.size (W3.alloc (.cells #[.int .i64 1,.int .i64 (s.h.last+1),.int .i64 sz,.slice (some ⟨W2.heap.size,0,none⟩) m.size bc] 217)) W->W.cell? ⟨w.heap.size,0,none⟩=some (.int .i64 sz)∧W.cell? ⟨w.heap.size+1,0,none⟩=some (.string m):=fun W hW=>by
  have hb5:aj W2 W:=then_ hb3 (then_ jq hW);exact⟨(hb5.cell (p:=⟨w.heap.size,0,none⟩) (show w.heap.size<W2.heap.size by omega)).trans e1,(hb5.cell (p:=⟨w.heap.size+1,0,none⟩) (show w.heap.size+1<W2.heap.size by omega)).trans e2⟩
 have HC:=H9 (W9 s S g w.heap.size (w.heap.size+1) ⟨1,s.h.last+1,sz,m.data.toList⟩ (some ⟨W2.heap.size,0,none⟩) m.size bc (Sr.made s.h sz m) _ (h.stay hB4) ok (hIB.stay jq) (by simp) (fun W g' hW _ hS=>Tg s.h _ g' w.heap.size (w.heap.size+1) sz m W hS ok.h (hc1 W hW).1 (hc1 W hW).2 (by omega) hm));have HB:=H9 hB4;have UL:∀(fn:Fn) (first cap:Array Value) (w:World),(Instr.makeFunc fn first cap).run prog w=.ok (.func fn first cap) w:=fun _ _ _ _=>rfl;have d1:W3.cell? ⟨w.heap.size,0,none⟩=some (.int .i64 sz):=(hb3.cell (p:=⟨w.heap.size,0,none⟩) (show w.heap.size<W2.heap.size by omega)).trans e1;unfold Sr.create;generalize Sr.write s _ _=r at *;have Lj:Hid (∀c:Nat,c=0->Sr.Du s c=s.h.last+1):=fun c hc=>by unfold Sr.Du;rw[if_pos hc]
 have HN0:Hid (∀c:Nat,c≠0->Sr.Du s c=0):=fun c hc=>by unfold Sr.Du;rw[if_neg hc]
 have Jg:=H9 hs3;clear h ok hB2 hB3 hB4 jq hc1 hI hs2 hs3 hIB hb3 c1 hm;generalize hla:s.h.last=la at *;clear hla;go_enter func119,ntmps119;go_wp2_with fail
 clear hW2;refine HN.o.mono ?_;rintro e w1 ⟨rfl,hw⟩;rw[hw];clear hw;go_wp2_with fail
 refine HC.o.mono ?_;intro e w2 hd;have hD:=jh.from_ HB.o hd;have HD:=H9 hD;clear hD;obtain⟨rfl,_,_⟩:=hd;by_cases hc:r.2=0
 . rw[hc];go_wp2;go_ret2;exact⟨by rw[Lj.o _ hc,hc];rfl,HD.o.at_,HD.o.turns⟩
 . have hc':¬(r.2:Int)=0:=by omega
   have HX:Hid (∀v,v=(r.2:Int)->Xb S w g s r (.returned (.tuple #[.int .i64 0,.int .i64 v])) w2):=fun v hv=>⟨by rw[HN0.o _ hc,hv],HD.o.at_,HD.o.turns⟩;clear hc HD;generalize (r.2:Int)=rc at *;go_wp2;go_ret2;exact HX.o _ rfl
end
theorem jw.anew {w:World}{g:Nat}{sk ln:Value}{fo:ak}{nf gM:Nat}{ah pl pt cd:Int}(h:jw w g sk ah ln fo nf gM pl pt cd)(pl' cd':Int):
 jw (((((((w.setCell ⟨g,0,none⟩ (.pointer none)).setCell ⟨g,1,none⟩ (.int .i64 0)).setCell ⟨g,2,none⟩ (.pointer none)).setCell ⟨g,3,none⟩ (.slice none 0 0)).setCell ⟨g,4,none⟩ (.int .i64 pl')).setCell ⟨g,5,none⟩ (.int .i64 0)).setCell ⟨g,6,none⟩ (.int .i64 cd')) g (.pointer none) 0 (.pointer none) none 0 0 pl' 0 cd' ∧
 Turns (fun k=>k=g) w (((((((w.setCell ⟨g,0,none⟩ (.pointer none)).setCell ⟨g,1,none⟩ (.int .i64 0)).setCell ⟨g,2,none⟩ (.pointer none)).setCell ⟨g,3,none⟩ (.slice none 0 0)).setCell ⟨g,4,none⟩ (.int .i64 pl')).setCell ⟨g,5,none⟩ (.int .i64 0)).setCell ⟨g,6,none⟩ (.int .i64 cd')):=by
 have s0:jw (w.setCell ⟨g,0,none⟩ (.pointer none)) g (.pointer none) ah ln fo nf gM pl pt cd:=⟨by rw[fO w g 0 _ _ _ h.row];rfl⟩;have s1:=s0.s1 0;have s2:jw (((w.setCell ⟨g,0,none⟩ (.pointer none)).setCell ⟨g,1,none⟩ (.int .i64 0)).setCell ⟨g,2,none⟩ (.pointer none)) g (.pointer none) 0 (.pointer none) fo nf gM pl pt cd:=⟨by rw[fO _ g 2 _ _ _ s1.row];rfl⟩;have s5:=((s2.s3 none 0 0).s4 pl').s5 0;refine⟨⟨by rw[fO _ g 6 _ _ _ s5.row];rfl⟩,ig g [.pointer none,.int .i64 0,.pointer none,.slice none 0 0,.int .i64 pl',.int .i64 0,.int .i64 cd'] 0 w⟩
theorem ze (w:World)(S So:Nat->Prop)(g gt:Nat)(m:av)(s:Fm.St)(c:UInt8)(t:Fm.Td)(h:kr w S g m s)(hl:Fm.live s)(hp:s.place=1∨s.place=2∨s.place=3∨s.place=4)(hO:nu w So gt t)(hd:∀k,S k->¬So k)(hes:t.es.length<=80000):
 Calls prog 270 #[.pointer (some ⟨g,0,none⟩),.pointer (some ⟨gt,0,none⟩),.int .u8 c.toNat] w fun e w'=>ZM w S So g gt m s c t e w':=by
 have hP:=Pair.start h hO hd;have hN:=Fm.RF m hp hl.1 c;have OJ:=H9 (Xh w s.place c hp);cases hP.fm with
 | dead h2 me row=>exact absurd hl h2
 | live h2 me gs gl p fo gM D row inn =>
   have HP:=H9 hP;have HN:=H9 hN;have nX:=H9 row;have HL:=H9 hl;have ZL:=H9 me
   have c4:=row.c4;have f4:=row.fz 4
   have hlt:=row.lt;have hgo:¬So g:=hd g me.1;have HGo:=H9 hgo;clear inn row h2 h hO hd hN hP hl me hgo;generalize hx:(Fm.turn s.place c).1=x at *;generalize hy:(Fm.turn s.place c).2=y at *;by_cases hy0:y=0
   . subst hy0;by_cases hx6:x=6
     . subst hx6;have hr4:=nX.o.s4 6;have c0':=hr4.c0;have c1':=hr4.c1;have c2':=hr4.c2;have c3':=hr4.c3;have c4':=hr4.c4;have c5':=hr4.c5;have c6':=hr4.c6
       have f0':=hr4.fz 0;have f1':=hr4.fz 1;have f2':=hr4.fz 2;have f3':=hr4.fz 3;have f4':=hr4.fz 4;have f5':=hr4.fz 5;have f6':=hr4.fz 6
       obtain⟨UM,Cb⟩:=hr4.anew 6 0;have HR7:=H9 UM;have HT7:=H9 Cb
       have hT:Turns (fun k=>S k∧k<w.heap.size) w _:=((jw.set w g 4 (.int .i64 6)).trans Cb (fun _ e _=>e)).mono (S':=fun k=>S k∧k<w.heap.size) (fun k e=>by subst e;exact ZL.o);have hDone:kr _ (fun k=>S k∧k<w.heap.size) g m Fm.done:=.dead Fm.RD ZL.o HR7.o;have hP7:=HP.o.form hDone hT;have TF:=H9 hP7;have Tv:=H9 (xV _ _ gt t 3 ⟨#[]⟩ ⟨#[]⟩ ⟨#[]⟩ 0 hP7.td (by decide) (by omega));clear hr4 UM Cb hT hDone hP7;go_enter func270,ntmps270;go_wp2_with fail
       refine OJ.o.mono ?_;rintro e w1 ⟨rfl,hw⟩;subst hw;go_wp2_with fail
       refine Tv.o.mono ?_;rintro e w5 ⟨rfl,EA,xQ⟩;have HW:=H9 (TF.o.told EA xQ).1;clear EA xQ;go_wp2;go_ret;refine .ok rfl ?_;rw[HN.o];exact HW.o
     . have t6:((x:Int)==6)=false:=by rw[aS];omega
       obtain⟨hm1,hm2⟩:=HP.o.fm.move HL.o x hx6;have HW:=H9 (HP.o.form hm1 hm2).went;clear hm1 hm2;go_enter func270,ntmps270;go_wp2_with fail
       refine OJ.o.mono ?_;rintro e w1 ⟨rfl,hw⟩;subst hw;clear OJ hx hy;go_wp2;go_ret;refine .ok rfl ?_;rw[HN.o,if_neg (fun e=>e rfl),if_neg hx6];exact HW.o
   . have hx0:x≠6:=fun e=>by
      have:=Fm.RG s.place c;rw[hx,hy] at this;exact hy0 (this e)
     have t6:((x:Int)==6)=false:=by rw[aS];omega
     have HR4:=H9 (nX.o.s4 (x:Int));go_enter func270,ntmps270;go_wp2_with fail
     refine OJ.o.mono ?_;rintro e w1 ⟨rfl,hw⟩;subst hw;clear OJ hx hy hx0;have HT:Hid (Turns (fun k=>S k∧k<w1.heap.size) w1 (w1.setCell ⟨g,4,none⟩ (.int .i64 (x:Int)))):=(jw.set w1 g 4 _).mono (fun k e=>by subst e;exact ZL.o);go_wp2;go_ret;refine .fail y hy0 (by rw[HN.o,if_pos hy0]) rfl ?_;exact .mk _ _ _ _ _ _ _ _ _ _ HR4.o (HP.o.td.turns HT.o (fun k e e2=>HP.o.apart k e2.1 e.1)) (fun e=>HGo.o e.1) (fun k e=>Or.inl e.1) (HT.o.mono (fun k e=>Or.inl e.1))
inductive acs (w:World)(g:Nat)(fo:ak)(nf:Nat)(fs:List Rq.Fl)(t:av)(e:Ending)(w':World):Prop
 | many (h:nf=16) (he:e=.returned (.int .i64 8)) (hw:w'=w)
 | bad (h:nf≠16) (c:Nat) (hc:c≠0) (hd:(Fd.of t).code=c) (he:e=.returned (.int .i64 (c:Int))) (hB:aj w w')
 | ok (h:nf≠16) (hd:(Fd.of t).code=0) (w3:World) (g3 gX:Nat) (he:e=.returned (.int .i64 0)) (hw:w'=w3.setCell ⟨g,3,none⟩ (.slice (some ⟨g3,0,none⟩) (nf+1) gX)) (hO:gV w3 0 111 2 (some ⟨g3,0,none⟩) gX (nf+1) (gU (Rq.ny (fs++[((Fd.of t).name,(Fd.of t).value)])))) (hT:Turns (fun k=>gL fo=some k) w w3) (hat:gL fo=some g3∨w.heap.size<=g3)
theorem OY (w:World)(g:Nat)(fo:ak)(nf gM:Nat)(fs:List Rq.Fl)(t:ay)(c3:w.cell? ⟨g,3,none⟩=some (.slice fo nf gM))(f3:w.frozen? ⟨g,3,none⟩=false)(hne:gL fo≠some g)(ho:gV w 0 111 2 fo gM nf (gU (Rq.ny fs)))(hn:nf<=16)(ht:t.size<=2000):
 Calls prog 294 #[.pointer (some ⟨g,2,none⟩),.string t] w fun e w'=>acs w g fo nf fs t.data.toList e w':=by
 by_cases h16:nf=16
 . have t16:((nf:Int)==16)=true:=by rw[h16];rfl
   have H16:=H9 h16;clear h16 ho;go_enter func294,ntmps294;go_wp2;go_ret;exact .many H16.o rfl rfl
 . have t16:((nf:Int)==16)=false:=by rw[aS];omega
   have H16:=H9 h16;have Mk:=H9 (xJ t w ht);unfold Fd.val at Mk;have hlt:=gq w _ c3;clear h16;by_cases hc:(Fd.of t.data.toList).code=0
   . rw[hc] at Mk;obtain⟨nm,hnm⟩:∃nm:ay,(⟨(Fd.of t.data.toList).name.toArray⟩:ay)=nm:=⟨_,rfl⟩;obtain⟨vl,hvl⟩:∃vl:ay,(⟨(Fd.of t.data.toList).value.toArray⟩:ay)=vl:=⟨_,rfl⟩;rw[hnm,hvl] at Mk;have HXs:Hid (gU (Rq.ny fs)++[.string nm,.string vl]=gU (Rq.ny (fs++[((Fd.of t.data.toList).name,(Fd.of t.data.toList).value)]))):=by
      unfold Hid;rw[Rq.yP,qB,<-hnm,<-hvl];rfl
     have HC:=H9 hc;have hK:∀W,aj w W->W.cell? ⟨g,3,none⟩=some (.slice fo nf gM):=fun W hW=>(hW.cell hlt).trans c3;have hK2:∀W W3,aj w W->W.grownBy W3 (Value.slice fo nf gM).ownBlock->W3.cell? ⟨g,3,none⟩=some (.slice fo nf gM)∧W3.frozen? ⟨g,3,none⟩=false:=fun W W3 hW hG=>by
      rw[gP] at hG;have hb:W.heap[g]? = w.heap[g]?:=hW.block g hlt;refine⟨hG.cell (hK W hW) (fun e=>hne e.symm),?_⟩;rw[gH (a:=⟨g,3,none⟩) ((hG.block g (cB hlt hW.size) (fun e=>hne e.symm)).trans hb)];exact f3
     have HK:=H9 hK;have Yr:=H9 hK2
     have HO:=H9 ho;obtain⟨i0,hi0,hz0,hz1,hz2⟩:=info_parts rU;have Hi:=H9 hi0;have kK:=H9 hz0;have kH:=H9 hz1;have kL:=H9 hz2
     have HN:Hid (nf+1<=maxLen∧(nf+1)*32<=140737488355328):=⟨by unfold maxLen;omega,by omega⟩;clear hi0 hz0 hz1 hz2 ho hK hK2 hc hnm hvl;go_enter func294,ntmps294;go_wp2_with fail
     refine Mk.o.mono ?_;rintro e w1 ⟨rfl,hB⟩;have hB0:aj w (w1.alloc (.cells #[.string nm,.string vl] 111)):=hB.trans ((fJ _ _).alloc hB.size _);have hB1:aj w ((w1.alloc (.cells #[.string nm,.string vl] 111)).alloc (.cells #[.string nm,.string vl] 111)):=hB0.trans ((fJ _ _).alloc hB0.size _);have hB2:aj w ((w1.alloc (.cells #[.string nm,.string vl] 111)).alloc (.cells #[.string nm,.string vl] 111)).drew:=hB1.trans ⟨rfl,rfl,rfl,aM _,fun _ _=>rfl⟩;have k3:=HK.o _ hB0;have j3:=HK.o _ hB1;have HB2:=H9 hB2;have HOw:=H9 (gV.below HO.o hB2 (fun a e=>(HO.o.block a e).2));have UW:Hid (∀j u,([.string nm,.string vl]:List Value)[j]? = some u->((w1.alloc (.cells #[.string nm,.string vl] 111)).alloc (.cells #[.string nm,.string vl] 111)).drew.cell? (Addr.add ⟨w1.heap.size+1,0,none⟩ j)=some u):=fun j u hu=>by
      rw[gI,bq];show((w1.alloc (.cells #[.string nm,.string vl] 111)).alloc (.cells #[.string nm,.string vl] 111)).cell? _=_;rw[World.cell?_alloc_at _ _ _ _ (by simp),dH];exact hu
     have HS:=H9 hB.size;clear hB hB0 hB1 hB2 c3 f3;go_wp2;go_region_law
      ((refine step_append_lies _ (by rfl) _ _ _ (by rfl) 0 111 i0 (.agg #[.string ⟨#[]⟩,.string ⟨#[]⟩]) 2 32 underlying66 Hi.o kK.o kH.o kL.o (by rfl) (by decide) (.slice fo nf gM) nf _ (by rfl) HOw.o ⟨w1.heap.size+1,0,none⟩ 1 1 [.string nm,.string vl] (by rfl) (by rfl) UW.o (fun u hu=>by simp at hu;rcases hu with rfl | rfl <;> rfl) (by decide) HN.o.1 HN.o.2 (aA _) (w1.heap.size+2) (by simp) ?_;intro g3 gX w3 hown3 hgrow kC hlt3;have sG:=H9 hgrow;have oD:=H9 hown3;have Jh:=H9 kC;have q3:=(Yr.o _ _ HB2.o hgrow).1;have qf:=(Yr.o _ _ HB2.o hgrow).2;clear hgrow hown3 kC))
     all_goals
      go_wp2;go_ret;have hG:=sG.o;have hA:=Jh.o
      rw[gP] at hG hA;refine .ok H16.o HC.o w3 g3 gX rfl rfl (by rw[<-HXs.o];exact oD.o) ((Turns.of_below HB2.o).trans (Turns.iZ (S:=fun k=>gL fo=some k) hG (fun k e=>e)) (fun _ e _=>e)) ?_;rcases hA with e | e
      . exact Or.inl e
      . exact Or.inr (by have:=HS.o;omega)
   . have tc:(((Fd.of t.data.toList).code:Int)==0)=false:=by rw[aS];omega
     have HC:=H9 hc;generalize hcc:(Fd.of t.data.toList).code=cc at *;clear hc ho;go_enter func294,ntmps294;go_wp2_with fail
     refine Mk.o.mono ?_;rintro e w1 ⟨rfl,hB⟩;have HCc:=H9 hcc;have F4:=H9 (then_ hB ((fJ _ _).alloc (aM _) (.cells #[.string ⟨(Fd.of t.data.toList).name.toArray⟩,.string ⟨(Fd.of t.data.toList).value.toArray⟩] 111)));clear hcc hB;go_wp2;go_ret;exact .bad H16.o cc HC.o HCc.o rfl F4.o
inductive Cj (w:World)(S So:Nat->Prop)(g gt:Nat)(m:av)(s:Fm.St)(tx:av)(t:Fm.Td)(e:Ending)(w':World):Prop
 | ok (he:e=.returned (.int .i64 0)) (h:za w S So g gt m (Fm.line s tx).1 (Fm.tells t (Fm.line s tx).2) w')
 | fail (k:Nat) (hk:k≠0) (hN:Fm.line s tx=Fm.fails k) (he:e=.returned (.int .i64 (k:Int))) (h:OX w S So g gt t w')
theorem O0 {s:Fm.St}{p:Fm.YU}(hp:Fm.part s.fields=.inr p)(h12:s.parts≠12):Fm.line s []=({ s with fields:=[],parts:=s.parts+1,place:=0,held:=2,ahead:=2 },[Fm.Qh p]):=by
 have:=Fm.RH (s:=s) hp h12;exact this
theorem TK {s:Fm.St}{c:Nat}(hp:Fm.part s.fields=.inl c):Fm.line s []=Fm.fails c:=by
 unfold Fm.line;rw[if_neg (fun h=>h rfl),hp]
theorem TL {s:Fm.St}{p:Fm.YU}(hp:Fm.part s.fields=.inr p)(h12:s.parts=12):Fm.line s []=Fm.fails 8:=by
 unfold Fm.line;rw[if_neg (fun h=>h rfl),hp];simp only;rw[if_pos h12]
theorem TM (w:World)(S So:Nat->Prop)(g gt:Nat)(m:av)(s:Fm.St)(t:Fm.Td)(h:kr w S g m s)(hl:Fm.live s)(h0:s.held=0)(hm:s.fields.length<=16)(hsh:∀f∈s.fields,f.1.length<=200∧f.2.length<=200)(hpt:s.parts<=12)(hO:nu w So gt t)(hd:∀k,S k->¬So k)(h2:m.take 2=[13,10])(h3:3<=m.length)(hL:m.length<=1000)(hes:t.es.length<=80000):
 Calls prog 295 #[.pointer (some ⟨g,0,none⟩),.pointer (some ⟨gt,0,none⟩)] w fun e w'=>Cj w S So g gt m s [] t e w':=by
 have hP:=Pair.start h hO hd;cases hP.fm with
 | dead h2 me row=>exact absurd hl h2
 | live hl2 me gs gl p fo gM D row inn =>
   have hT1:Turns (fun k=>k=g) w (w.setCell ⟨g,3,none⟩ (.slice none 0 0)):=jw.set w g 3 _;have r1:=row.s3 none 0 0;have i0:tK w (fun k=>(S k∧k<w.heap.size)∧k≠g) m { s with fields:=[] } gs gl p none 0 D:=⟨inn.sk,inn.Ae,inn.OU,inn.ln,gV.nil _ _ _ _,fun a e=>(by cases e)⟩;have i1:=i0.turns hT1 (fun k e=>e.2);have hV:=inn.own.nQ.turns hT1 (fun a e=>(inn.fC a e).1.2);have hne:g≠gs:=fun e=>inn.Ae.1.2 e.symm;have Dc:=H9 (TA w g fo s.fields.length gM row.c3 (row.fz 3));have UZ:=H9 (Xo (Rq.ny s.fields) fo gM s.fields.length _ hV (Rq.kV _) (by omega) (fun q hq=>by
    unfold Rq.ny at hq;obtain⟨f,hf,rfl⟩:=aN.1 hq;have:=hsh f hf;refine⟨?_,?_⟩
    . show f.1.toArray.size<=_;rw[bM];omega
    . show f.2.toArray.size<=_;rw[bM];omega))
   rw[Rq.Jm] at UZ;have HP:=H9 hP;have HR1:=H9 r1;have HI1:=H9 i1;have HT1:=H9 hT1;have ZL:=H9 me;have HLv:=H9 hl;have HH0:=H9 h0
   have hlt:=row.lt;have hgo:¬So g:=hd g me.1;have HGo:=H9 hgo;have HM:Hid (m.take 2=[13,10]∧3<=m.length∧m.length<=1000):=⟨h2,h3,hL⟩;have aa1:Hid (∀(W2:World),Below (w.setCell ⟨g,3,none⟩ (.slice none 0 0)).heap.size (w.setCell ⟨g,3,none⟩ (.slice none 0 0)) W2->OX w S So g gt t W2):=fun W2 hb=>by
    have hTd:=(HP.o.td.turns HT1.o (fun k e e2=>by subst e2;exact HGo.o e.1)).stay hb;exact .mk _ _ _ _ _ _ _ _ _ _ (HR1.o.stay hb) hTd (fun e=>HGo.o e.1) (fun k e=>Or.inl e.1) ((HT1.o.mono (S':=fun k=>S k∨So k) (fun k e=>by subst e;exact Or.inl ZL.o.1)).trans (Turns.of_below hb) (fun _ e _=>e))
   clear hV inn i0 i1 r1 row hP h hO hd h0 hl hl2 me hT1 h2 h3 hL hgo hm hsh;cases hpp:Fm.part s.fields with
   | inl k =>
     have hk:=Fm.RI hpp;have HN:=H9 (TK hpp);have HK:=H9 hk;rw[hpp] at UZ;unfold Fm.Ml at UZ;simp only at UZ;have tc:((k:Int) != 0)=true:=by rw[cZ];omega
     clear hpp hk;go_enter func295,ntmps295;go_wp2_with fail
     refine Dc.o.mono ?_;rintro e w1 ⟨rfl,hw⟩;subst hw;go_wp2_with fail
     refine UZ.o.mono ?_;rintro e w2 ⟨rfl,hb2⟩;have HF:=H9 (aa1.o _ (then_ hb2 ((fJ _ _).alloc (aM _) (.cells #[.string ⟨#[]⟩,.string ⟨#[]⟩,.string ⟨#[]⟩,.slice none 0 0] 70))));clear hb2;go_wp2;go_ret;exact .fail k HK.o HN.o rfl HF.o
   | inr pr =>
     rw[hpp] at UZ;unfold Fm.Ml at UZ;simp only at UZ;by_cases h12:s.parts=12
     . have HN:=H9 (TL hpp h12);have t12:((s.parts:Int)==12)=true:=by rw[h12];rfl
       clear hpp h12;go_enter func295,ntmps295;go_wp2_with fail
       refine Dc.o.mono ?_;rintro e w1 ⟨rfl,hw⟩;subst hw;go_wp2_with fail
       refine UZ.o.mono ?_;rintro e w2 ⟨rfl,hb2⟩;have hb3:=then_ hb2 ((fJ _ _).alloc (aM _) (.cells #[.string ⟨pr.name.toArray⟩,.string ⟨pr.file.toArray⟩,.string ⟨pr.type.toArray⟩,.slice none 0 0] 70));have HF:=H9 (aa1.o _ hb3);have c5:=(HR1.o.stay hb3).c5;clear hb2 hb3;go_wp2;go_ret;exact .fail 8 (by decide) HN.o rfl HF.o
     . have HN:=H9 (O0 hpp h12);have t12:((s.parts:Int)==12)=false:=by rw[aS];omega
       clear hpp;go_enter func295,ntmps295;go_wp2_with fail
       refine Dc.o.mono ?_;rintro e w1 ⟨rfl,hw⟩;subst hw;go_wp2_with fail
       refine UZ.o.mono ?_;rintro e w2 ⟨rfl,hb2⟩;have hb3:=then_ hb2 ((fJ _ _).alloc (aM _) (.cells #[.string ⟨pr.name.toArray⟩,.string ⟨pr.file.toArray⟩,.string ⟨pr.type.toArray⟩,.slice none 0 0] 70));have hrow2:=fI w2 (.cells #[.string ⟨pr.name.toArray⟩,.string ⟨pr.file.toArray⟩,.string ⟨pr.type.toArray⟩,.slice none 0 0] 70);have hw2:w.heap.size<=w2.heap.size:=by have:=hb2.size;simpa using this
       go_upto_region 2 with fail
       generalize hW2:(w2.alloc (.cells #[.string ⟨pr.name.toArray⟩,.string ⟨pr.file.toArray⟩,.string ⟨pr.type.toArray⟩,.slice none 0 0] 70))=W2 at *;have r2:=HR1.o.stay hb3;have r3:=(r2.s5 ((s.parts:Int)+1)).s4 0;have pF:Turns (fun k=>k=g) W2 ((W2.setCell ⟨g,5,none⟩ (.int .i64 ((s.parts:Int)+1))).setCell ⟨g,4,none⟩ (.int .i64 0)):=(jw.set W2 g 5 _).trans (jw.set _ g 4 _) (fun _ e _=>e);have i3:=(HI1.o.stay hb3).turns pF (fun k e=>e.2);have c5:=r2.c5;have f5:=r2.fz 5
       have c4:=(r2.s5 ((s.parts:Int)+1)).c4;have f4:=(r2.s5 ((s.parts:Int)+1)).fz 4
       have hSk:mR ((W2.setCell ⟨g,5,none⟩ (.int .i64 ((s.parts:Int)+1))).setCell ⟨g,4,none⟩ (.int .i64 0)) gs m 0 p:=by have:=i3.sk;rw[show({ s with fields:=[] }:Fm.St).held=0 from HH0.o] at this;exact this
       have ZA:=H9 (yC _ g gs m p _ r3.c0 r3.c1 (r3.fz 1) hne hSk HM.o.1 HM.o.2.1 (by have:=HM.o.2.2;omega));have HB3:=H9 hb3;have aeH:=H9 hrow2;have HR3:=H9 r3;have HT3:=H9 pF;have HI3:=H9 i3
       clear hb2 hb3 hrow2 r2 r3 pF i3 hSk;go_wp2_with fail
       refine ZA.o.mono ?_;rintro e w5 ⟨w4,rfl,JE,hS5,Lv⟩;obtain⟨r5,t5⟩:=kr.sought (s:={ s with fields:=[],parts:=s.parts+1,place:=0 }) (a2:=2) (S:=fun k=>S k∧k<w.heap.size) ⟨HLv.o.1,by show(0:Nat)≠6;decide⟩ ZL.o HR3.o (HI3.o.as rfl rfl rfl) hS5 Lv;have e5:w4.setCell ⟨g,1,none⟩ (.int .i64 ((2:Nat):Int))=w5:=JE.symm;rw[e5] at r5 t5;have hgs:gs<w.heap.size:=by have:=HI1.o.sk.lt;simpa using this
       have CQ:∀{a b:World},Turns (fun k=>k=g) a b->Turns (fun k=>S k∧k<w.heap.size) a b:=fun hh=>hh.mono (fun k e=>by subst e;exact ZL.o);have aa2:Turns (fun k=>S k∧k<w.heap.size) w w5:=(((CQ HT1.o).trans (Turns.of_below HB3.o) (fun _ e _=>e)).trans (CQ HT3.o) (fun _ e _=>e)).trans t5 (fun _ e _=>e);have Na:=HP.o.form r5 aa2;have q1:=HT3.o.row aeH.o (fun e=>by omega);have q2:w4.heap[w2.heap.size]? = _:=(Lv.block _ (aL.1 q1).1 (fun e=>by injection e with e;omega)).trans q1;have q3:w5.heap[w2.heap.size]? = some (.cells #[.string ⟨pr.name.toArray⟩,.string ⟨pr.file.toArray⟩,.string ⟨pr.type.toArray⟩,.slice none 0 0] 70 (0,0)):=by
        rw[<-e5];exact(jw.set w4 g 1 _).row q2 (fun e=>by omega)
       have p0:w5.cell? ⟨w2.heap.size,0,none⟩=some (.string ⟨pr.name.toArray⟩):=fK w5 _ 0 _ _ _ q3;have p1:w5.cell? ⟨w2.heap.size,1,none⟩=some (.string ⟨pr.file.toArray⟩):=fK w5 _ 1 _ _ _ q3;have p2:w5.cell? ⟨w2.heap.size,2,none⟩=some (.string ⟨pr.type.toArray⟩):=fK w5 _ 2 _ _ _ q3;have p3:w5.cell? ⟨w2.heap.size,3,none⟩=some (.slice none 0 0):=fK w5 _ 3 _ _ _ q3;have Tv:=H9 (xV w5 _ gt t 5 ⟨pr.name.toArray⟩ ⟨pr.file.toArray⟩ ⟨pr.type.toArray⟩ 0 Na.td (by decide) (by omega));have HP5:=H9 Na;clear r5 t5 e5 aa2 Na q1 q2 q3 CQ JE hS5 Lv hgs;go_wp2_with fail
       refine Tv.o.mono ?_;rintro e w6 ⟨rfl,vI,qZ⟩;have HW:=H9 (HP5.o.told vI qZ).1;clear vI qZ;go_wp2;go_ret;refine .ok rfl ?_;rw[HN.o];exact HW.o
theorem OX.then_ {w0 w w':World}{S So S1 Mj:Nat->Prop}{g gt:Nat}{t':Fm.Td}(hS1:∀k,S1 k->S k∨w0.heap.size<=k)(Af:∀k,Mj k->So k∨w0.heap.size<=k)(hT:Turns (fun k=>S k∨So k) w0 w)(h2:OX w S1 Mj g gt t' w'):OX w0 S So g gt t' w':=by
 obtain⟨So2,sk,ln,ah,pl,pt,cd,fo,nf,gM,hR,hO2,hd2,Xj,jV⟩:=h2;have hz:=hT.size;refine .mk So2 sk ln ah pl pt cd fo nf gM hR hO2 hd2 (fun k e=>?_) (hT.trans jV (fun i e hi=>?_))
 . rcases Xj k e with e | e
   . exact Af k e
   . exact Or.inr (by omega)
 . rcases e with e | e
   . rcases hS1 i e with e | e
     . exact Or.inl e
     . omega
   . rcases Af i e with e | e
     . exact Or.inr e
     . omega
theorem Cj.took {w0 w w':World}{S So S1 Mj:Nat->Prop}{g gt:Nat}{m:av}{s s1:Fm.St}{c:UInt8}{tx:av}{t:Fm.Td}{e:Ending}(hN:Fm.next m s c=Fm.line s1 tx)(hS1:∀k,S1 k->S k∨w0.heap.size<=k)(Af:∀k,Mj k->So k∨w0.heap.size<=k)(hT:Turns (fun k=>S k∨So k) w0 w)(h:Cj w S1 Mj g gt m s1 tx t e w'):ZM w0 S So g gt m s c t e w':=by
 cases h with
 | ok he h=>exact .ok he (by rw[hN];exact za.then_ hS1 Af hT h)
 | fail k hk hL he h=>exact .fail k hk (hN.trans hL) he (OX.then_ hS1 Af hT h)
theorem F9 (w:World)(S So:Nat->Prop)(g gt:Nat)(m:av)(s:Fm.St)(tx:av)(t:Fm.Td)(h:kr w S g m s)(hl:Fm.live s)(hm:s.fields.length<=16)(hO:nu w So gt t)(hd:∀k,S k->¬So k)(htx:tx≠[])(hz:tx.length<=200):
 Calls prog 294 #[.pointer (some ⟨g,2,none⟩),.string ⟨tx.toArray⟩] w fun e w'=>Cj w S So g gt m s tx t e w':=by
 have hP:=Pair.start h hO hd;cases hP.fm with
 | dead h2 me row=>exact absurd hl h2
 | live hl2 me gs gl p fo gM D row inn =>
   have hgo:¬So g:=hd g me.1;refine(OY w g fo s.fields.length gM s.fields ⟨tx.toArray⟩ row.c3 (row.fz 3) (fun e=>?_) inn.own hm (by show tx.toArray.size<=_;rw[bM];omega)).mono ?_
   . cases fo with
     | none=>cases e
     | some a=>injection e with e;exact(inn.fC a rfl).1.2 e
   . intro e w' hF;have hL:Fm.line s tx=if s.fields.length=16 then Fm.fails 8 else if (Fd.of tx).code≠0 then Fm.fails (Fd.of tx).code else ({ s with fields:=s.fields++[((Fd.of tx).name,(Fd.of tx).value)] },[]):=by
      unfold Fm.line;rw[if_pos htx]
     cases hF with
     | many h16 he hw =>
       rw[if_pos h16] at hL;subst hw;exact .fail 8 (by decide) hL he (.mk _ _ _ _ _ _ _ _ _ _ row hP.td (fun e=>hgo e.1) (fun k e=>Or.inl e.1) (Turns.refl _ _))
     | bad h16 c hc hd2 he hB =>
       have hd2:(Fd.of tx).code=c:=hd2;rw[if_neg h16,hd2,if_pos hc] at hL;exact .fail c hc hL he (.mk _ _ _ _ _ _ _ _ _ _ (row.stay hB) (hP.td.stay hB) (fun e=>hgo e.1) (fun k e=>Or.inl e.1) (Turns.of_below hB))
     | ok h16 hd2 w3 g3 gX he hw hO3 pF hat =>
       have hd2:(Fd.of tx).code=0:=hd2;rw[if_neg h16,hd2,if_neg (fun e=>e rfl)] at hL;refine .ok he ?_;rw[hL];subst hw;have hfo:∀k,gL fo=some k->∃a,fo=some a∧a.block=k:=fun k e=>by
        cases fo with
        | none=>cases e
        | some a=>injection e with e;exact⟨a,rfl,e⟩
       have hz3:=pF.size;have EU:Turns (fun k=>k=g) w3 (w3.setCell ⟨g,3,none⟩ (.slice (some ⟨g3,0,none⟩) (s.fields.length+1) gX)):=jw.set w3 g 3 _;have hlt:=row.lt;have r3:=(row.turns pF (fun e=>by obtain⟨a,ea,eb⟩:=hfo g e;exact(inn.fC a ea).1.2 eb)).s3 (some ⟨g3,0,none⟩) (s.fields.length+1) gX;have hg3:g3<w3.heap.size:=(hO3.block _ rfl).2;have ain:g3≠g:=fun e=>by
        rcases hat with e2 | e2
        . obtain⟨a,ea,eb⟩:=hfo g3 e2;exact(inn.fC a ea).1.2 (eb.trans e)
        . omega
       have hlen:(s.fields++[((Fd.of tx).name,(Fd.of tx).value)]).length=s.fields.length+1:=by rw[aW];rfl
       have i3:tK w3 (fun k=>(S k∧k<w.heap.size∨w.heap.size<=k∧k<w3.heap.size)∧k≠g) m { s with fields:=s.fields++[((Fd.of tx).name,(Fd.of tx).value)] } gs gl p (some ⟨g3,0,none⟩) gX (fun k=>D k∧k<w.heap.size):=by
        refine⟨inn.sk.turns pF ?_ ?_ ?_,⟨⟨Or.inl inn.Ae.1.1,inn.Ae.1.2⟩,⟨Or.inl inn.Ae.2.1.1,inn.Ae.2.1.2⟩,fun a e=>⟨Or.inl (inn.Ae.2.2 a e).1,(inn.Ae.2.2 a e).2⟩⟩,⟨fun e=>inn.OU.1 e.1,fun e=>inn.OU.2.1 e.1,fun a e e2=>inn.OU.2.2 a e e2.1⟩,?_,?_,?_⟩
        . intro e;obtain⟨a,ea,eb⟩:=hfo _ e;exact(inn.fs a ea).1 eb
        . intro e;obtain⟨a,ea,eb⟩:=hfo _ e;exact(inn.fs a ea).2.1 eb
        . intro b hb e;obtain⟨a,ea,eb⟩:=hfo _ e;exact(inn.fs a ea).2.2 b hb eb
        . have:=(inn.ln.mono (S':=fun k=>((S k∧k<w.heap.size∨w.heap.size<=k∧k<w3.heap.size)∧k≠g)∧(D k∧k<w.heap.size)) (fun k hk e=>⟨⟨Or.inl e.1.1,e.1.2⟩,e.2,hk⟩));exact this.turns pF (fun k e e2=>by obtain⟨a,ea,eb⟩:=hfo _ e2;exact(inn.fC a ea).2 (eb▸e.2.1))
        . show gV w3 0 111 2 (some ⟨g3,0,none⟩) gX (s.fields++[((Fd.of tx).name,(Fd.of tx).value)]).length _;rw[hlen];exact hO3
        . intro a e;injection e with e;subst e;refine⟨⟨?_,ain⟩,fun e2=>?_⟩
          . rcases hat with e2 | e2
            . obtain⟨a,ea,eb⟩:=hfo g3 e2;exact Or.inl (eb▸(inn.fC a ea).1.1)
            . exact Or.inr ⟨e2,hg3⟩
          . rcases hat with e3 | e3
            . obtain⟨a,ea,eb⟩:=hfo g3 e3;exact(inn.fC a ea).2 (eb▸e2.1)
            . have h9:g3<w.heap.size:=e2.2;omega
       have i4:=i3.turns EU (fun k e=>e.2);have r4:jw (w3.setCell ⟨g,3,none⟩ (.slice (some ⟨g3,0,none⟩) (s.fields.length+1) gX)) g (.pointer (some ⟨gs,0,none⟩)) (s.ahead:Int) (.pointer (some ⟨gl,0,none⟩)) (some ⟨g3,0,none⟩) (s.fields++[((Fd.of tx).name,(Fd.of tx).value)]).length gX (s.place:Int) (s.parts:Int) (s.code:Int):=by rw[hlen];exact r3
       have aeI:∀k,gL fo=some k->S k∧k<w.heap.size:=fun k e=>by obtain⟨a,ea,eb⟩:=hfo k e;exact eb▸(inn.fC a ea).1.1
       refine .mk (fun k=>S k∧k<w.heap.size∨w.heap.size<=k∧k<w3.heap.size) (fun k=>So k∧k<w.heap.size) (.live (s:={ s with fields:=s.fields++[((Fd.of tx).name,(Fd.of tx).value)] }) hl (Or.inl me) gs gl p _ gX _ r4 i4) ((hP.td.turns pF (fun k e e2=>hd k (aeI k e2).1 e.1)).turns EU (fun k e e2=>by subst e2;exact hgo e.1)) (fun k e e2=>?_) (fun k e=>?_) (fun k e=>Or.inl e.1) ?_
       . rcases e with e | e
         . exact hd k e.1 e2.1
         . have:=e2.2;omega
       . rcases e with e | e
         . exact Or.inl e.1
         . exact Or.inr e.1
       . exact(pF.mono (S':=fun k=>S k∨So k) (fun k e=>Or.inl (aeI k e).1)).trans (EU.mono (S':=fun k=>S k∨So k) (fun k e=>by subst e;exact Or.inl me.1)) (fun _ e _=>e)
theorem kr.lined {w w1:World}{S:Nat->Prop}{g gs gl:Nat}{m:av}{s:Fm.St}{p:OP}{fo:ak}{gM:Nat}{D:Nat->Prop}{ln2:Ln.St}(hl:Fm.live s)(me:S g)(hSz:∀k,S k->k<w.heap.size)(row:jw w g (.pointer (some ⟨gs,0,none⟩)) (s.ahead:Int) (.pointer (some ⟨gl,0,none⟩)) fo s.fields.length gM (s.place:Int) (s.parts:Int) (s.code:Int))(inn:tK w (fun k=>S k∧k≠g) m s gs gl p fo gM D)
 (hL:iA w1 (gN (fun k=>(S k∧k≠g)∧D k) w) gl ln2) (hT:Turns (fun k=>(S k∧k≠g)∧D k) w w1):kr w1 (fun k=>S k∨w.heap.size<=k∧k<w1.heap.size) g m { s with ln:=ln2 }:=by
 have hlt:=row.lt;refine .live hl (Or.inl me) gs gl p fo gM (fun k=>D k∧k<w.heap.size∨w.heap.size<=k) (row.turns hT (fun e=>e.1.2 rfl)) ⟨inn.sk.turns hT (fun e=>inn.OU.1 e.2) (fun e=>inn.OU.2.1 e.2) (fun a e e2=>inn.OU.2.2 a e e2.2),⟨⟨Or.inl inn.Ae.1.1,inn.Ae.1.2⟩,⟨Or.inl inn.Ae.2.1.1,inn.Ae.2.1.2⟩,fun a e=>⟨Or.inl (inn.Ae.2.2 a e).1,(inn.Ae.2.2 a e).2⟩⟩,⟨?_,?_,?_⟩,hL.mono (fun k hk e=>?_),inn.own.turns hT (fun a e e2=>(inn.fC a e).2 e2.2),fun a e=>⟨⟨Or.inl (inn.fC a e).1.1,(inn.fC a e).1.2⟩,?_⟩⟩
 . intro e;rcases e with e | e
   . exact inn.OU.1 e.1
   . have:=hSz _ inn.Ae.1.1;omega
 . intro e;rcases e with e | e
   . exact inn.OU.2.1 e.1
   . have:=hSz _ inn.Ae.2.1.1;omega
 . intro a ea e;rcases e with e | e
   . exact inn.OU.2.2 a ea e.1
   . have:=hSz _ (inn.Ae.2.2 a ea).1;omega
 . rcases e with e | e
   . exact⟨⟨Or.inl e.1.1,e.1.2⟩,Or.inl ⟨e.2,hSz k e.1.1⟩⟩
   . exact⟨⟨Or.inr ⟨e,hk⟩,by omega⟩,Or.inr e⟩
 . intro e2;rcases e2 with e2 | e2
   . exact(inn.fC a e).2 e2.1
   . have:=hSz _ (inn.fC a e).1.1;omega
theorem JK (w:World)(S So:Nat->Prop)(g gt:Nat)(m:av)(s:Fm.St)(c:UInt8)(t:Fm.Td)(h:kr w S g m s)(hl:Fm.live s)(hp:s.place=5)(hG:Fm.Good m s)(hO:nu w So gt t)(hd:∀k,S k->¬So k)(h2:m.take 2=[13,10])(h3:3<=m.length)(hL:m.length<=1000)(hes:t.es.length<=80000):
 Calls prog 269 #[.pointer (some ⟨g,0,none⟩),.pointer (some ⟨gt,0,none⟩),.int .u8 c.toNat] w fun e w'=>ZM w S So g gt m s c t e w':=by
 have hP:=Pair.start h hO hd;have hN:=Fm.RB m hp hl.1 c;cases hP.fm with
 | dead h2 me row=>exact absurd hl h2
 | live hl2 me gs gl p fo gM D row inn =>
   have HF:=H9 (pz w _ gl s.ln c inn.ln hG.ln.short);unfold Ln.fed at HF;have c2:=row.c2;have HP:=H9 hP;have HN:=H9 hN;have nX:=H9 row
   have hgo:¬So g:=hd g me.1;have HGo:=H9 hgo;have aeJ:∀w1,iA w1 (gN (fun k=>((S k∧k<w.heap.size)∧k≠g)∧D k) w) gl (Ln.next s.ln c)->Turns (fun k=>((S k∧k<w.heap.size)∧k≠g)∧D k) w w1->kr w1 (fun k=>(S k∧k<w.heap.size)∨w.heap.size<=k∧k<w1.heap.size) g m { s with ln:=Ln.next s.ln c }∧nu w1 (fun k=>So k∧k<w.heap.size) gt t∧Turns (fun k=>S k∨So k) w w1:=fun w1 hL1 hT1 =>
    ⟨kr.lined hl me (fun k e=>e.2) row inn hL1 hT1,hP.td.turns hT1 (fun k e e2=>hd k e2.1.1.1 e.1),hT1.mono (fun k e=>Or.inl e.1.1.1)⟩
   have ZP:=H9 aeJ;have HD:=H9 hd;have hapart:∀w1:World,∀k,((S k∧k<w.heap.size)∨w.heap.size<=k∧k<w1.heap.size)->¬(So k∧k<w.heap.size):=fun w1 k e e2=>by
    rcases e with e | e
    . exact hd k e.1 e2.1
    . omega
   have M9:=H9 hapart;have Tt:=H9 hG;have HLv:=H9 hl;have HPl:=H9 hp;have HM:Hid (m.take 2=[13,10]∧3<=m.length∧m.length<=1000):=⟨h2,h3,hL⟩
   clear aeJ hapart inn row hP h hO hd hl2 me hN hgo h2 h3 hL;by_cases hc:(Ln.next s.ln c).code=0
   . have tc:(((Ln.next s.ln c).code:Int) != 0)=false:=by rw[hc];rfl
     cases he:Ln.ends s.ln c with
     | false =>
       rw[he] at HF HN;rw[if_neg (fun e=>e hc),if_neg (by simp)] at HN;have HC:=H9 hc;generalize hcd:((Ln.next s.ln c).code:Int)=cd at HF tc;have HCd:Hid (cd=0):=by unfold Hid;rw[<-hcd,hc];rfl
       clear hc hcd he;generalize (⟨(Ln.text s.ln c).toArray⟩:ay)=tx at *;go_enter func269,ntmps269;go_wp2_with fail
       refine HF.o.mono ?_;rintro e w1 ⟨rfl,hL1,hT1⟩;have HA:=H9 (ZP.o w1 hL1 hT1);clear hL1 hT1;go_wp2;go_ret;refine .ok (by rw[HCd.o];rfl) ?_;rw[HN.o];exact .mk _ _ HA.o.1 HA.o.2.1 (M9.o w1) (fun k e=>e.imp (fun e=>e.1) (fun e=>e.1)) (fun k e=>Or.inl e.1) HA.o.2.2
     | true =>
       rw[he] at HF HN;rw[if_neg (fun e=>e hc),if_pos rfl] at HN;have hsh:=(Rq.uK (c:=c) hG.ln).1;have Ap:=H9 (Fm.DT he);rw[hc] at HF;clear tc;by_cases htx:Ln.text s.ln c=[]
       . have HB:Hid (∀w1,kr w1 (fun k=>(S k∧k<w.heap.size)∨w.heap.size<=k∧k<w1.heap.size) g m { s with ln:=Ln.next s.ln c }->nu w1 (fun k=>So k∧k<w.heap.size) gt t->Calls prog 295 #[.pointer (some ⟨g,0,none⟩),.pointer (some ⟨gt,0,none⟩)] w1 fun e w'=>Cj w1 (fun k=>(S k∧k<w.heap.size)∨w.heap.size<=k∧k<w1.heap.size) (fun k=>So k∧k<w.heap.size) g gt m { s with ln:=Ln.next s.ln c } [] t e w'):=fun w1 hF1 qz =>
          TM w1 _ _ g gt m { s with ln:=Ln.next s.ln c } t hF1 HLv.o (Tt.o.idle (by rw[HPl.o];decide)) Tt.o.many Tt.o.short Tt.o.parts qz (M9.o w1) HM.o.1 HM.o.2.1 HM.o.2.2 hes
         rw[htx] at HF HN;clear htx hc he hG hl hp;go_enter func269,ntmps269;go_wp2_with fail
         refine HF.o.mono ?_;rintro e w1 ⟨rfl,hL1,hT1⟩;have HA:=H9 (ZP.o w1 hL1 hT1);clear hL1 hT1;go_wp2_with fail
         refine(HB.o w1 HA.o.1 HA.o.2.1).mono ?_;intro e w2 Xp;have HK:=H9 (Cj.took (w0:=w) HN.o (S:=S) (So:=So) (fun k e=>e.imp (fun e=>e.1) (fun e=>e.1)) (fun k e=>Or.inl e.1) HA.o.2.2 Xp);obtain⟨v,hv⟩:∃v,e=.returned v:=by cases Xp with
          | ok he h=>exact⟨_,he⟩
          | fail k hk hN he h=>exact⟨_,he⟩
         clear Xp;subst hv;go_wp2;go_ret;exact HK.o
       . have ttx:((⟨(Ln.text s.ln c).toArray⟩:ay).toList==[])=false:=by rw[aS,Lib.toList_data];exact htx
         have HB:Hid (∀w1,kr w1 (fun k=>(S k∧k<w.heap.size)∨w.heap.size<=k∧k<w1.heap.size) g m { s with ln:=Ln.next s.ln c }->nu w1 (fun k=>So k∧k<w.heap.size) gt t->Calls prog 294 #[.pointer (some ⟨g,2,none⟩),.string ⟨(Ln.text s.ln c).toArray⟩] w1 fun e w'=>Cj w1 (fun k=>(S k∧k<w.heap.size)∨w.heap.size<=k∧k<w1.heap.size) (fun k=>So k∧k<w.heap.size) g gt m { s with ln:=Ln.next s.ln c } (Ln.text s.ln c) t e w'):=fun w1 hF1 qz =>
          F9 w1 _ _ g gt m { s with ln:=Ln.next s.ln c } (Ln.text s.ln c) t hF1 HLv.o Tt.o.many qz (M9.o w1) htx hsh
         clear htx hc he hG hl hp hsh;generalize (⟨(Ln.text s.ln c).toArray⟩:ay)=tx at *;go_enter func269,ntmps269;go_wp2_with fail
         refine HF.o.mono ?_;rintro e w1 ⟨rfl,hL1,hT1⟩;have HA:=H9 (ZP.o w1 hL1 hT1);clear hL1 hT1;go_wp2_with fail
         refine(HB.o w1 HA.o.1 HA.o.2.1).mono ?_;intro e w2 Xp;have HK:=H9 (Cj.took (w0:=w) HN.o (S:=S) (So:=So) (fun k e=>e.imp (fun e=>e.1) (fun e=>e.1)) (fun k e=>Or.inl e.1) HA.o.2.2 Xp);obtain⟨v,hv⟩:∃v,e=.returned v:=by cases Xp with
          | ok he h=>exact⟨_,he⟩
          | fail k hk hN he h=>exact⟨_,he⟩
         clear Xp;subst hv;go_wp2;go_ret;exact HK.o
   . have tc:(((Ln.next s.ln c).code:Int) != 0)=true:=by rw[cZ];omega
     rw[if_pos hc] at HN;have HC:=H9 hc;generalize hcd:(Ln.next s.ln c).code=cd at *;clear hc;generalize (⟨(Ln.text s.ln c).toArray⟩:ay)=tx at *;generalize Ln.ends s.ln c=en at *;go_enter func269,ntmps269;go_wp2_with fail
     refine HF.o.mono ?_;rintro e w1 ⟨rfl,hL1,hT1⟩;have HA:=H9 (ZP.o w1 hL1 hT1);have HR1:=H9 (nX.o.turns hT1 (fun e=>e.1.2 rfl));clear hL1 hT1 hcd;go_wp2;go_ret;exact .fail cd HC.o HN.o rfl (.mk _ _ _ _ _ _ _ _ _ _ HR1.o HA.o.2.1 (fun e=>HGo.o e.1) (fun k e=>Or.inl e.1) HA.o.2.2)
structure TN (m:av)(s:Fm.St):Prop where
 good:Fm.Good m s
 two:m.take 2=[13,10]
 long:5<=m.length
 short:m.length<=100
 ahead:s.ahead<=2
theorem TN.fold {m:av}{s:Fm.St}(h:TN m s)(l:av):TN m (Fm.fold m s l):=⟨h.good.fold (by have:=h.long;omega) l,h.two,h.long,h.short,Fm.DV m l s h.ahead⟩
theorem Xq (w:World)(S So:Nat->Prop)(g gt:Nat)(m:av)(s:Fm.St)(c:UInt8)(t:Fm.Td)(h:kr w S g m s)(hl:Fm.live s)(hG:TN m s)(hO:nu w So gt t)(hd:∀k,S k->¬So k)(hes:t.es.length<=80000)(hbs:t.bs.length<=80000):
 Calls prog 233 #[.pointer (some ⟨g,0,none⟩),.pointer (some ⟨gt,0,none⟩),.int .u8 c.toNat] w fun e w'=>ZM w S So g gt m s c t e w':=by
 have c4:=h.cells.1;have h3:3<=m.length:=by have:=hG.long;omega
 have h1:m.length<=1000:=by have:=hG.short;omega
 by_cases hp0:s.place=0
 . have HT:=H9 (JJ w S So g gt m s c t h hl hp0 hG.good hO hd h1 hG.ahead hes hbs);have t0:((s.place:Int)==0)=true:=by rw[hp0];rfl
   clear hp0 h hl hG hO hd;go_enter func233,ntmps233;go_wp2_with fail
   refine HT.o.mono ?_;rintro e w1 ⟨rfl,hW⟩;have HW:=H9 hW;clear hW;go_wp2;go_ret;exact .ok rfl HW.o
 . have t0:((s.place:Int)==0)=false:=by rw[aS];omega
   by_cases hp5:s.place=5
   . have HT:=H9 (JK w S So g gt m s c t h hl hp5 hG.good hO hd hG.two h3 h1 hes);have t5:((s.place:Int)==5)=true:=by rw[hp5];rfl
     clear hp5 hp0 h hl hG hO hd;go_enter func233,ntmps233;go_wp2_with fail
     refine HT.o.mono ?_;intro e w1 hW;have HW:=H9 hW;obtain⟨v,hv⟩:∃v,e=.returned v:=by cases hW with
      | ok he h=>exact⟨_,he⟩
      | fail k hk hN he h=>exact⟨_,he⟩
     clear hW;subst hv;go_wp2;go_ret;exact HW.o
   . have t5:((s.place:Int)==5)=false:=by rw[aS];omega
     have hp6:=hG.good.place;have hn6:=hl.2;have HT:=H9 (ze w S So g gt m s c t h hl (by omega) hO hd hes);clear hp5 hp0 h hl hG hO hd hp6 hn6;go_enter func233,ntmps233;go_wp2_with fail
     refine HT.o.mono ?_;intro e w1 hW;have HW:=H9 hW;obtain⟨v,hv⟩:∃v,e=.returned v:=by cases hW with
      | ok he h=>exact⟨_,he⟩
      | fail k hk hN he h=>exact⟨_,he⟩
     clear hW;subst hv;go_wp2;go_ret;exact HW.o
structure Cm (w:World)(S:Nat->Prop)(g:Nat)(m:av)(s:Fm.St)(l:av)(k:Nat)(wr:World):Prop where
 two:∃S' So',kr wr S' g m (Fm.fold m s (l.take k))∧nu wr So' w.heap.size (Fm.tells Fm.FV (Fm.outs m s (l.take k)))∧(∀i,S' i->¬So' i)∧(∀i,S' i->S i∨w.heap.size<=i)∧(∀i,So' i->w.heap.size<=i)
 turns:Turns S w wr
inductive JL (w:World)(S:Nat->Prop)(g:Nat)(m:av)(s:Fm.St)(l:av)(e:Ending)(w':World):Prop
 | mk (ao:ak) (cap n:Nat) (S' So':Nat->Prop) (he:e=.returned (.slice ao n cap)) (hn:n=(lY (Fm.outs m s l)).length) (hR:kr w' S' g m (Fm.fold m s l)) (hO:pG w' So' 72 ao cap (lY (Fm.outs m s l))) (hd:∀i,S' i->¬So' i) (hS:∀i,S' i->S i∨w.heap.size<=i) (hSo:∀i,So' i->w.heap.size<=i) (hT:Turns S w w')
theorem Cm.step {w wr w':World}{S S' So':Nat->Prop}{g:Nat}{m:av}{s:Fm.St}{l:av}{k:Nat}(hk:k<l.length)(hS:∀i,S' i->S i∨w.heap.size<=i)(hSo:∀i,So' i->w.heap.size<=i)(hT:Turns S w wr)
 (h:za wr S' So' g w.heap.size m (Fm.next m (Fm.fold m s (l.take k)) l[k]).1 (Fm.tells (Fm.tells Fm.FV (Fm.outs m s (l.take k))) (Fm.next m (Fm.fold m s (l.take k)) l[k]).2) w'):Cm w S g m s l (k+1) w':=by
 obtain⟨S2,So2,hF,hO,hd,hS2,Xj,jV⟩:=h;have ht:l.take (k+1)=l.take k++[l[k]]:=bO hk;have hz:=hT.size;refine⟨⟨S2,So2,by rw[ht,Fm.oJ];exact hF,by rw[ht,Fm.AO,Fm.zF];exact hO,hd,fun i e=>?_,fun i e=>?_⟩,hT.trans jV (fun i e hi=>?_)⟩
 . rcases hS2 i e with e | e
   . exact hS i e
   . exact Or.inr (by omega)
 . rcases Xj i e with e | e
   . exact hSo i e
   . omega
 . rcases e with e | e
   . rcases hS i e with e | e
     . exact e
     . omega
   . have:=hSo i e;omega
theorem TP {w w1 w2:World}{S So Mj:Nat->Prop}{g gt:Nat}{m:av}{t:Fm.Td}{k:Nat}(hk:k≠0)(me:S g)
 (hd1:¬Mj g) (Af:∀i,Mj i->So i∨w.heap.size<=i) (hT1:Turns (fun i=>S i∨So i) w w1)
 {w7:World} (UM:jw w7 g (.pointer none) 0 (.pointer none) none 0 0 0 0 (k:Int)) (Cb:Turns (fun i=>i=g) w1 w7) (hg:g<w.heap.size) (hO2:nu w2 (gN (fun i=>Mj i∧i<w1.heap.size) w7) gt (Fm.tell t (Fm.VB k))) (jV:Turns (fun i=>Mj i∧i<w1.heap.size) w7 w2) :
 za w S So g gt m (Fm.fails k).1 (Fm.tells t (Fm.fails k).2) w2:=by
 have hz1:=hT1.size;have hz7:=Cb.size;refine .mk (fun i=>i=g) _ (.dead (Fm.KT hk) rfl (UM.turns jV (fun e=>hd1 e.1))) hO2 (fun i e e2=>?_) (fun i e=>by subst e;exact Or.inl me) (fun i e=>?_) ((hT1.trans Cb (fun i e _=>by subst e;exact Or.inl me)).trans jV (fun i e hi=>?_))
 . subst e;rcases e2 with e2 | e2
   . exact hd1 e2.1
   . omega
 . rcases e with e | e
   . exact Af i e.1
   . exact Or.inr (by omega)
 . rcases Af i e.1 with e | e
   . exact Or.inr e
   . omega
theorem Cm.done {w wr w':World}{S S' So':Nat->Prop}{g:Nat}{m:av}{s:Fm.St}{l:av}{k:Nat}{ao bo:ak}{cap bc:Nat}(hF:kr wr S' g m (Fm.fold m s (l.take k)))(hd:∀i,S' i->¬So' i)(hS:∀i,S' i->S i∨w.heap.size<=i)(hSo:∀i,So' i->w.heap.size<=i)(hT:Turns S w wr)(ho:Fm.outs m s l=Fm.outs m s (l.take k))(hf:Fm.fold m s l=Fm.fold m s (l.take k))
 (hR:jT w' (gN (fun i=>So' i∧i<wr.heap.size) wr) w.heap.size ao cap bo bc ⟨Fm.flush (Fm.tells Fm.FV (Fm.outs m s (l.take k))),[]⟩) (jV:Turns (fun i=>So' i∧i<wr.heap.size) wr w'):JL w S g m s l (.returned (.slice ao (Fm.flush (Fm.tells Fm.FV (Fm.outs m s (l.take k)))).length cap)) w':=by
 have hfl:=(Fm.BF _ (Fm.yN m (l.take k) s)).1;have hz:=hT.size;refine .mk ao cap _ (fun i=>S' i∧i<wr.heap.size) (fun i=>gN (fun i=>So' i∧i<wr.heap.size) wr i) rfl (by rw[hfl,ho]) (by rw[hf];exact(hF.mono (fun i hi e=>⟨e,hi⟩)).turns jV (fun i e e2=>hd i e.1 e2.1)) (by rw[ho,<-hfl];exact hR.all.mono (fun i _ e=>e.1.1)) (fun i e e2=>?_) (fun i e=>hS i e.1) (fun i e=>?_) (hT.trans jV (fun i e hi=>by have:=hSo i e.1;omega))
 . rcases e2 with e2 | e2
   . exact hd i e.1 e2.1
   . have:=e.2;omega
 . rcases e with e | e
   . exact hSo i e.1
   . omega
theorem JM (w:World)(S:Nat->Prop)(g:Nat)(m:av)(s:Fm.St)(l:av)(bo:ak)(gK n:Nat)(h:kr w S g m s)(hG:TN m s)(hB:iH w bo gK l)(rD:l≠[]->∀a,bo=some a->¬S a.block)(hn:l.length=n)(hl:n<=20000):
 Calls prog 196 #[.pointer (some ⟨g,0,none⟩),.slice bo n gK] w fun e w'=>JL w S g m s l e w':=by
 subst hn;have hlt:=h.lt;have hb0:aj w (w.alloc (.cells #[.slice none 0 0,.slice none 0 0] 268)):=(fJ _ _).alloc (aM _) _;have Xr:Cm w S g m s l 0 (w.alloc (.cells #[.slice none 0 0,.slice none 0 0] 268)):=⟨⟨fun k=>S k∧k<w.heap.size,fun k=>w.heap.size<=k,(h.mono (fun k hk e=>⟨e,hk⟩)).stay hb0,⟨_,_,_,_,jT.made w⟩,fun i e e2=>by have:=e.2;omega,fun i e=>Or.inl e.1,fun i e=>e⟩,Turns.of_below hb0⟩;have Ap:=H9 Xr;have HB:=H9 hB;have HG:=H9 hG;have YA:=H9 rD
 have ZL:=H9 h.me;have Zx:=H9 hlt;clear hB h hG rD hb0 Xr;go_enter func196,ntmps196;go_wp2;go_loopw [11] (fun vi wr=>∃k:Nat,k<=l.length∧vi=.int .i64 k∧Cm w S g m s l k wr) (fun vi _=>l.length-(intOf vi).toNat)
 case atStart=>exact⟨0,aA _,rfl,Ap.o⟩
 case round =>
  clear Ap;obtain⟨k,hk,rfl,hF⟩:=hrel;obtain⟨S',So',hR',Ao,hd',hS',Ga⟩:=hF.two;have hT':=hF.turns;have htk:(l.take k).length<=20000:=by rw[bY];omega
  have nO:=Fm.RJ (by have:=HG.o.long;omega) HG.o.good (l.take k);have hh:=HG.o.good.held;have hsh:=HG.o.short;have hO2:nu wr (fun i=>So' i∧i<wr.heap.size) w.heap.size (Fm.tells Fm.FV (Fm.outs m s (l.take k))):=Ao.mono (fun i hi e=>⟨e,hi⟩);have ZQ:=H9 (II wr _ w.heap.size _ hO2 (by omega));have QS:Hid (∀(w':World) (ao bo:ak) (cap bc:Nat),Fm.outs m s l=Fm.outs m s (l.take k)->Fm.fold m s l=Fm.fold m s (l.take k)->jT w' (gN (fun i=>So' i∧i<wr.heap.size) wr) w.heap.size ao cap bo bc ⟨Fm.flush (Fm.tells Fm.FV (Fm.outs m s (l.take k))),[]⟩->Turns (fun i=>So' i∧i<wr.heap.size) wr w'->JL w S g m s l (.returned (.slice ao (Fm.flush (Fm.tells Fm.FV (Fm.outs m s (l.take k)))).length cap)) w'):=fun w' ao bo cap bc ho hf hR jV=>Cm.done hR' hd' hS' Ga hT' ho hf hR jV;by_cases hlt2:k<l.length
  . obtain⟨bb,oo,rfl,_⟩:=HB.o.lit (by omega);have hne:l≠[]:=by intro e;subst e;simp at hlt2
    obtain⟨b2,o2,he2,hc2⟩:=(HB.o.turns hT' (fun a e=>YA.o hne a e)).lit (by omega);injection he2 with he2;injection he2 with hb2 ho2;subst hb2;subst ho2;have ck:=hc2 k hlt2;have hlt':(k:Int)<l.length:=by omega
    have hcap:=HB.o.1;obtain⟨c4,c5,c6,fz⟩:=hR'.cells;by_cases hlv:Fm.live (Fm.fold m s (l.take k))
    . have hG':=HG.o.fold (l.take k);have tF:=H9 (Xq wr S' So' g w.heap.size m _ l[k] _ hR' hlv hG' Ao hd' (by omega) (by omega));have IK:Hid (∀w',za wr S' So' g w.heap.size m (Fm.next m (Fm.fold m s (l.take k)) l[k]).1 (Fm.tells (Fm.tells Fm.FV (Fm.outs m s (l.take k))) (Fm.next m (Fm.fold m s (l.take k)) l[k]).2) w'->Cm w S g m s l (k+1) w'):=fun w' hw=>Cm.step hlt2 hS' Ga hT' hw;have t0:(((Fm.fold m s (l.take k)).code:Int) != 0)=false:=by rw[hlv.1];rfl
      have t6:(((Fm.fold m s (l.take k)).place:Int)==6)=false:=by rw[aS];have:=hlv.2;omega
      have aio:=H9 hR'.me;have aip:=H9 hR'.lt
      have hes:(Fm.tells Fm.FV (Fm.outs m s (l.take k))).es.length<=80000:=by omega
      have HEs:=H9 hes;generalize Fm.tells Fm.FV (Fm.outs m s (l.take k))=td at *;generalize Fm.fold m s (l.take k)=st at *;generalize l[k]=cb at *;clear hR' Ao hd' hS' Ga nO hO2 hc2 hlv hF ZQ QS hG' hes;go_wp2_with fail
      refine tF.o.mono ?_;intro e w1 O3;cases O3 with
      | ok he hW =>
        subst he;have HW:=H9 (IK.o w1 hW);clear hW;go_wp2;go_roundw
        case rel=>exact⟨k+1,by omega,by go_num,HW.o⟩
        case measure=>simp[intOf];omega
      | fail kk hkk hN he hF =>
        subst he;have tk:((kk:Int) != 0)=true:=by rw[cZ];omega
        obtain⟨Mj,sk,ln,ah,pl,pt,cd,fo,nf,gM,uD,qz,hd1,Af,hT1⟩:=hF;have q0:=uD.c0;have q1:=uD.c1;have q2:=uD.c2;have q3:=uD.c3;have q4:=uD.c4;have q5:=uD.c5;have q6:=uD.c6
        have f0:=uD.fz 0;have f1:=uD.fz 1;have f2:=uD.fz 2;have f3:=uD.fz 3;have f4:=uD.fz 4;have f5:=uD.fz 5;have f6:=uD.fz 6
        obtain⟨UM,Cb⟩:=uD.anew 0 (kk:Int);have hO7:=(qz.mono (S':=fun i=>Mj i∧i<w1.heap.size) (fun i hi e=>⟨e,hi⟩)).turns Cb (fun i e e2=>by subst e2;exact hd1 e.1);have Tv:=H9 (xV _ _ w.heap.size td 4 ⟨#[]⟩ ⟨#[]⟩ ⟨#[]⟩ (kk:Int) hO7 (by decide) (by have:=HEs.o;omega));have HR7:=H9 UM;have HT7:=H9 Cb;have HK:Hid (kk≠0∧¬Mj g∧(∀i,Mj i->So' i∨wr.heap.size<=i)):=⟨hkk,hd1,Af⟩;have HT1:=H9 hT1;have HN:=H9 hN
        clear uD UM Cb hO7 hkk hd1 Af hT1 qz hN;go_wp2_with fail
        refine Tv.o.mono ?_;rintro e w2 ⟨rfl,hO2,jV⟩;have hW:=TP (m:=m) HK.o.1 aio.o HK.o.2.1 HK.o.2.2 HT1.o HR7.o HT7.o aip.o hO2 jV;have HW:=H9 (IK.o w2 (by rw[HN.o];exact hW));clear hO2 jV hW;go_wp2;go_roundw
        case rel=>exact⟨k+1,by omega,by go_num,HW.o⟩
        case measure=>simp[intOf];omega
    . have hdr:=Fm.lT (m:=m) (l.drop k) hlv;have HDn:Hid (Fm.outs m s l=Fm.outs m s (l.take k)∧Fm.fold m s l=Fm.fold m s (l.take k)):=by
       constructor
       . conv=>lhs;rw[<-bX k l,Fm.jF,hdr.1,bW]
       . conv=>lhs;rw[<-bX k l,Fm.jM,hdr.2]
      have HLv:=H9 hlv;generalize Fm.flush (Fm.tells Fm.FV (Fm.outs m s (l.take k)))=fl at *;generalize hfo:Fm.fold m s (l.take k)=st at *;generalize l[k]=cb at *;clear hR' Ao hd' hS' Ga nO hO2 hc2 hlv hdr hF;by_cases hc0:st.code=0
      . have t0:((st.code:Int) != 0)=false:=by rw[hc0];rfl
        have h6:st.place=6:=by
         rcases Nat.decEq st.place 6 with e | e
         . exact absurd ⟨hc0,e⟩ HLv.o
         . exact e
        have t6:((st.place:Int)==6)=true:=by rw[h6];rfl
        clear hc0 h6;go_wp2_with fail
        refine ZQ.o.mono ?_;rintro e w2 ⟨jy,cap2,AX,bc2,rfl,hR2,jV⟩;have HR2:=H9 (QS.o w2 jy AX cap2 bc2 HDn.o.1 HDn.o.2 hR2 jV);clear hR2 jV;go_wp2;go_ret;exact HR2.o
      . have t0:((st.code:Int) != 0)=true:=by rw[cZ];omega
        clear hc0;go_wp2_with fail
        refine ZQ.o.mono ?_;rintro e w2 ⟨jy,cap2,AX,bc2,rfl,hR2,jV⟩;have HR2:=H9 (QS.o w2 jy AX cap2 bc2 HDn.o.1 HDn.o.2 hR2 jV);clear hR2 jV;go_wp2;go_ret;exact HR2.o
  . obtain rfl:k=l.length:=by omega
    have HDn:Hid (Fm.outs m s l=Fm.outs m s (l.take l.length)∧Fm.fold m s l=Fm.fold m s (l.take l.length)):=by
     unfold Hid;rw[bP];exact⟨rfl,rfl⟩
    generalize Fm.flush (Fm.tells Fm.FV (Fm.outs m s (l.take l.length)))=fl at *;clear hR' Ao hd' hS' Ga nO hO2 hF;go_wp2_with fail
    refine ZQ.o.mono ?_;rintro e w2 ⟨jy,cap2,AX,bc2,rfl,hR2,jV⟩;have HR2:=H9 (QS.o w2 jy AX cap2 bc2 HDn.o.1 HDn.o.2 hR2 jV);clear hR2 jV;go_wp2;go_ret;exact HR2.o
inductive ZR (w:World)(l:av)(e:Ending)(w':World):Prop
 | no (h:Fm.lK l=false) (he:e=.returned (.tuple #[.pointer none,.int .i64 5])) (hb:aj w w')
 | yes (h:Fm.lK l=true) (g:Nat) (he:e=.returned (.tuple #[.pointer (some ⟨g,0,none⟩),.int .i64 0])) (hF:kr w' (fun k=>w.heap.size<=k) g (Fm.mark l) Fm.start) (hb:aj w w')
theorem Mq (s:ay)(w:World):
 Calls prog 195 #[.string s] w fun e w'=>ZR w s.data.toList e w':=by
 have HM:=H9 (Xu s w);have hl:=Ch.iD s;cases hm:Fm.lK s.data.toList with
 | false =>
   rw[hm] at HM;have HR:=H9 hm;clear hm;go_enter func195,ntmps195;go_wp2_with fail
   refine HM.o.mono ?_;rintro e w1 ⟨rfl,hb1⟩;have HB1:=H9 hb1;clear hb1;go_wp2;go_ret2;exact .no HR.o rfl HB1.o
 | true =>
   rw[hm] at HM;have HR:=H9 hm;obtain⟨hne,h70⟩:=Ag hm;rw[hl] at h70;obtain⟨hm2,hm5,aeM⟩:=Fm.DW s.data.toList hne (by rw[hl];exact h70);have hx:((⟨#[13,10,45,45]⟩:ay)++s).data.toList=Fm.mark s.data.toList:=by rw[Ch.data_append];rfl
   have hxs:((⟨#[13,10,45,45]⟩:ay)++s).size=(Fm.mark s.data.toList).length:=Ch.size_of_list hx;clear hm hne;go_enter func195,ntmps195;go_wp2_with fail
   refine HM.o.mono ?_;rintro e w1 ⟨rfl,hb1⟩;obtain⟨cap,w2,qx,hB2,hBf⟩:=NS (P:=prog) w1 ((⟨#[13,10,45,45]⟩:ay)++s) 9 31 5 (by rw[hxs];unfold maxLen;omega) underlying9 underlying31 underlying5;rw[hx] at hBf;rw[hxs] at qx;have UW:=H9 (Xt (Fm.mark s.data.toList) _ cap w2 hBf.xg (by omega));have HB2:=H9 (then_ hb1 hB2);have HMk:Hid ((Fm.mark s.data.toList).take 2=[13,10]∧5<=(Fm.mark s.data.toList).length∧(Fm.mark s.data.toList).length<=74):=⟨hm2,hm5,aeM⟩;clear hx hxs hBf hB2 hb1 hm2 hm5 aeM HM;have hst:(s.size:Int)<=70:=by omega
   generalize hmk:Fm.mark s.data.toList=mk at *;go_wp2_with fail
   refine UW.o.mono ?_;rintro e w3 ⟨gs,p,rfl,hSk,hg1,hg2,hg3,hb3⟩;have HSk:=H9 hSk;have HG:Hid (w2.heap.size<=gs∧w2.heap.size<=p.gb∧∀a,p.mo=some a->w2.heap.size<=a.block):=⟨hg1,hg2,hg3⟩;have HB3:=H9 (then_ HB2.o hb3)
   have Jg:=H9 hb3.size;clear hSk hg1 hg2 hg3 hb3 UW qx;go_wp2_with fail
   refine(uO w3).mono ?_;rintro e w4 ⟨rfl,hL,hb4⟩;have jq:aj w4 (w4.alloc (.cells #[.pointer (some ⟨gs,0,none⟩),.int .i64 0,.pointer (some ⟨w3.heap.size,0,none⟩),.slice none 0 0,.int .i64 0,.int .i64 0,.int .i64 0] 266)):=(fJ _ _).alloc (aM _) _;have hrow:jw (w4.alloc (.cells #[.pointer (some ⟨gs,0,none⟩),.int .i64 0,.pointer (some ⟨w3.heap.size,0,none⟩),.slice none 0 0,.int .i64 0,.int .i64 0,.int .i64 0] 266)) w4.heap.size (.pointer (some ⟨gs,0,none⟩)) 0 (.pointer (some ⟨w3.heap.size,0,none⟩)) none 0 0 0 0 0:=⟨fI w4 _⟩;have hz2:=HB2.o.size;have hz3:=Jg.o;have hz4:=hb4.size;have aiq:gs<w3.heap.size:=HSk.o.lt;have air:p.gb<w3.heap.size:=HSk.o.2.2.lt;have acB:tK (w4.alloc (.cells #[.pointer (some ⟨gs,0,none⟩),.int .i64 0,.pointer (some ⟨w3.heap.size,0,none⟩),.slice none 0 0,.int .i64 0,.int .i64 0,.int .i64 0] 266)) (fun k=>w.heap.size<=k∧k≠w4.heap.size) mk ⟨0,0,0,Ln.start,[],0,0⟩ gs w3.heap.size p none 0 (fun k=>w3.heap.size<=k):=by
    refine⟨(HSk.o.stay hb4).stay jq,⟨⟨by have:=HG.o.1;omega,by omega⟩,⟨by have:=HG.o.2.1;omega,by omega⟩,fun a e=>⟨by have:=HG.o.2.2 a e;omega,by have:=(HSk.o.2.1.block a e).2;omega⟩⟩,⟨by omega,by omega,fun a e=>by have:=(HSk.o.2.1.block a e).2;omega⟩,?_,gV.nil _ _ _ _,fun a e=>(by cases e)⟩;have:=hL.mono (S':=fun k=>(w.heap.size<=k∧k≠w4.heap.size)∧w3.heap.size<=k) (fun k hk e=>⟨⟨by omega,by omega⟩,e⟩);exact this.turns (Turns.of_below (S:=fun _=>False) jq) (fun _ _ e=>e)
   have aeN:mR (w4.alloc (.cells #[.pointer (some ⟨gs,0,none⟩),.int .i64 0,.pointer (some ⟨w3.heap.size,0,none⟩),.slice none 0 0,.int .i64 0,.int .i64 0,.int .i64 0] 266)) gs mk 0 p:=acB.sk;have ZA:=H9 (yC _ w4.heap.size gs mk p _ hrow.c0 hrow.c1 (hrow.fz 1) (by omega) aeN HMk.o.1 (by have:=HMk.o.2.1;omega) (by have:=HMk.o.2.2;omega));have nX:=H9 hrow;have ais:=H9 acB
   have oH:=H9 (then_ (then_ HB3.o hb4) jq);have Hz:Hid (w.heap.size<=w4.heap.size):=by show _<=_;omega
   clear hrow acB aeN jq hL hb4 hz2 hz3 hz4 aiq air HSk HG;go_wp2_with fail
   refine ZA.o.mono ?_;rintro e w6 ⟨w5,rfl,hw6,hS6,Ot⟩;obtain⟨r6,t6⟩:=kr.sought (s:=⟨0,0,0,Ln.start,[],0,0⟩) (a2:=2) (S:=fun k=>w.heap.size<=k) ⟨rfl,by decide⟩ Hz.o nX.o ais.o hS6 Ot;have e6:w5.setCell ⟨w4.heap.size,1,none⟩ (.int .i64 ((2:Nat):Int))=w6:=hw6.symm;rw[e6] at r6 t6;have HF6:=H9 r6;have vP:=H9 (oH.o.trans (t6.below (fun k e=>e) oH.o.size));have ait:=H9 hmk;clear r6 t6 e6 hw6 hS6 Ot hmk;go_wp2;go_ret2;refine .yes HR.o w4.heap.size rfl ?_ vP.o;rw[ait.o];exact HF6.o
theorem jo.acC (W:World)(cs:Array Value)(n t:Nat)(fr:Nat×Nat){k:Nat}(hk:W.heap.size=k):jo (W.alloc (.cells cs t fr)) (some ⟨k,0,none⟩) n n cs.toList:=by
 subst hk;exact jo.made W cs n t fr
def aa6 (w:World)(D:Nat->Prop)(ao:ak)(cap:Nat)(es:List iN):Prop :=
 es.length<=cap∧(0<es.length->∃b o,ao=some ⟨b,o,none⟩∧∀j (hj:j<es.length),∃s,abt w b (o+j*12) es[j] s∧ko w D s.bo s.gK es[j].bytes∧ko w D s.po s.jA es[j].iw)
theorem nR.aeO {w:World}{S:Nat->Prop}{tE:Nat}{ao:ak}{cap:Nat}{es:List iN}(h:nR w S tE ao cap es):aa6 w S ao cap es:=by
 obtain⟨ps,rfl,hO,_,hI⟩:=h;have hv:=hO.nQ;refine⟨hv.1,fun h0=>?_⟩;obtain⟨b,o,rfl,hc⟩:=hv.lit (by rw[mX];rw[aF] at h0;omega);refine⟨b,o,rfl,fun j hj=>?_⟩;have hj':j<ps.length:=by simpa using hj
 refine⟨ps[j].2,?_⟩;rw[aG];have hin:=hI _ (aC hj');refine⟨⟨fun i u hi=>?_,hin.fields.is,hin.bytes.is,hin.iw.is⟩,hin.bytes.mono (fun _ _ e=>e.1),hin.iw.mono (fun _ _ e=>e.1)⟩;have hl:i<12:=(aQ.1 hi).1;rw[<-rC _ j hj' i hl] at hi;have:=hc _ _ hi;rw[bL];exact this
theorem O4 (w:World)(D:Nat->Prop)(ao:ak)(cap n:Nat)(es:List iN)(hE:aa6 w D ao cap es)(hn:es.length=n)(hl:n<=100000)(hL:Fm.zH es):
 Calls prog 198 #[.slice ao n cap] w fun e w'=>∃gW cap' m,e=.returned (.slice gW m cap')∧qd w D (Fm.pR es) gW cap' m w':=by
 subst hn;have HE:=H9 hE;have HL:=H9 hL
 obtain⟨i0,hi0,hz0,hz1,hz2⟩:=info_parts SS;have Hi:=H9 hi0;have kK:=H9 hz0;have kH:=H9 hz1;have kL:=H9 hz2
 clear hE hL hi0 hz0 hz1 hz2;go_enter func198,ntmps198;go_wp2;go_loopw [3,8] (fun vo vi wr=>∃(i m:Nat) (gW:ak) (cap':Nat),i<=es.length∧vi=.int .i64 i∧vo=.slice gW m cap'∧qd w D (Fm.pR (es.take i)) gW cap' m wr) (fun _ vi _=>es.length-(intOf vi).toNat)
 case atStart=>exact⟨0,0,none,0,aA _,rfl,rfl,qd.start w D⟩
 case round =>
  obtain⟨i,m,gW,cap',hi,rfl,rfl,hP⟩:=hrel;have HP:=H9 hP;have hml:m<=100000:=by have h1:=hP.len;have h2:=Fm.BK (es.take i);rw[bY] at h2;omega
  clear hP;by_cases hlt:i<es.length
  . have hlt':(i:Int)<es.length:=by omega
    obtain⟨b,o,rfl,hEs⟩:=HE.o.2 (by omega);obtain⟨s,hE,hD1,hD2⟩:=hEs i hlt;have hcap:=HE.o.1;have hlead:=fun h2=>Fm.Hw _ _ rfl (HL.o.at_ hlt h2);have tF:Hid (Fm.pR (es.take (i+1))=Fm.laid (Fm.pR (es.take i)) es[i]):=by
     unfold Hid;rw[bO hlt,Fm.Hu]
    clear hEs;generalize es[i]=e at *;have hcl:∀j u,(e.cells s)[j]? = some u->wr.cell? ⟨b,o+i*12+j,none⟩=some u:=fun j u hu=>(HP.o.below.cell (gq w _ (hE.at_ j u hu))).trans (hE.at_ j u hu);have c0:wr.cell? ⟨b,o+i*12,none⟩=some (.int .i64 e.kind):=hcl 0 _ rfl;have c1:wr.cell? ⟨b,o+i*12+1,none⟩=some (.string e.method):=hcl 1 _ rfl;have c2:wr.cell? ⟨b,o+i*12+2,none⟩=some (.string e.target):=hcl 2 _ rfl;have c3:wr.cell? ⟨b,o+i*12+3,none⟩=some (.int .i64 e.minor):=hcl 3 _ rfl;have c4:wr.cell? ⟨b,o+i*12+4,none⟩=some (.slice s.fo e.fields.length s.gM):=hcl 4 _ rfl;have c5:wr.cell? ⟨b,o+i*12+5,none⟩=some (.int .i64 e.length):=hcl 5 _ rfl;have c6:wr.cell? ⟨b,o+i*12+6,none⟩=some (.slice s.bo e.bytes.length s.gK):=hcl 6 _ rfl;have c7:wr.cell? ⟨b,o+i*12+7,none⟩=some (.string e.kW):=hcl 7 _ rfl;have c8:wr.cell? ⟨b,o+i*12+8,none⟩=some (.string e.kJ):=hcl 8 _ rfl;have c9:wr.cell? ⟨b,o+i*12+9,none⟩=some (.string e.ptype):=hcl 9 _ rfl;have c10:wr.cell? ⟨b,o+i*12+10,none⟩=some (.slice s.po e.iw.length s.jA):=hcl 10 _ rfl;have c11:wr.cell? ⟨b,o+i*12+11,none⟩=some (.int .i64 e.code):=hcl 11 _ rfl;have HBy:Hid (ko w D s.bo s.gK e.bytes∧ko w D s.po s.jA e.iw):=⟨hD1,hD2⟩;have jq:aj wr (wr.alloc (.cells #[.int .i64 e.kind,.string e.method,.string e.target,.int .i64 e.minor,.slice s.fo e.fields.length s.gM,.int .i64 e.length,.slice s.bo e.bytes.length s.gK,.string e.kW,.string e.kJ,.string e.ptype,.slice s.po e.iw.length s.jA,.int .i64 e.code] 72)):=(fJ _ _).alloc (aM _) _;have HPA:=H9 (HP.o.stay jq);clear hcl hE jq hD1 hD2;generalize e.fields.length=nfl at *;obtain⟨nb,hnb⟩:∃nb,e.bytes.length=nb:=⟨_,rfl⟩;obtain⟨npb,acE⟩:∃npb,e.iw.length=npb:=⟨_,rfl⟩;rw[hnb] at c6 HPA;rw[acE] at c10 HPA;have WE:=H9 hnb;have aiu:=H9 acE
    clear hnb acE;by_cases h5:e.kind=5
    . have t5:(e.kind==5)=true:=aT.2 h5;have hld:Fm.laid (Fm.pR (es.take i)) e=Fm.pR (es.take i)++[⟨e.kW,e.kJ,e.ptype,e.iw⟩]:=by unfold Fm.laid;rw[if_pos h5]
      obtain⟨xs,hO,hpu⟩:=(HPA.o.stay ((fJ _ _).alloc (aM _) (.cells #[.string e.kW,.string e.kJ,.string e.ptype,.slice s.po npb s.jA] 70))).push;have HO:=H9 hO;have HPu:=H9 hpu;have HLd:=H9 (tF.o.trans hld)
      have Am:Hid (SV ⟨e.kW,e.kJ,e.ptype,e.iw⟩ ⟨s.po,s.jA⟩=[.string e.kW,.string e.kJ,.string e.ptype,.slice s.po npb s.jA]):=by unfold Hid SV;rw[aiu.o]
      have CO:Hid (w.heap.size<=wr.heap.size):=HP.o.below.size;clear h5 hld hO hpu hlead tF;generalize e.kind=ek at *;go_wp2_with (at_builtin;refine gT rfl (.tmp 16) (.tmp 19) 187 rfl w.heap.size 70 i0 (.agg #[.string ⟨#[]⟩,.string ⟨#[]⟩,.string ⟨#[]⟩,.slice none 0 0]) 4 72 underlying187 Hi.o kK.o kH.o kL.o rfl (by decide) rfl HO.o rfl (jo.acC _ _ 1 _ _ (by simp)) rfl (fun u hu=>by simp at hu;rcases hu with rfl | rfl | rfl | rfl <;> rfl) (by omega) (by omega) (by rw[fZ,fZ];have:=CO.o;omega) ?_;intro a3 c3 w3 hO3 hG3 kC;have J8:=H9 (HPu.o a3 c3 w3 ⟨e.kW,e.kJ,e.ptype,e.iw⟩ ⟨s.po,s.jA⟩ HBy.o.2 (by rw[Am.o];exact hO3) hG3);clear hO3 hG3 kC)
      go_roundw
      case rel=>exact⟨i+1,m+1,a3,c3,by omega,by go_num,rfl,by rw[HLd.o];exact J8.o⟩
      case measure=>simp[intOf];omega
    . have t5:(e.kind==5)=false:=aS.2 h5;by_cases h2:e.kind=2
      . have t2:(e.kind==2)=true:=aT.2 h2;have hpos:=hlead h2;obtain⟨qs,p,hqp⟩:∃qs p,Fm.pR (es.take i)=qs++[p]:=by
         rcases bD (Fm.pR (es.take i)) with e0 | ⟨q,x,e0⟩
         . rw[e0] at hpos;simp at hpos
         . exact⟨q,x,by rw[e0,bF]⟩
        have hld:Fm.laid (Fm.pR (es.take i)) e=qs++[{ p with bytes:=e.bytes }]:=by
         unfold Fm.laid;rw[if_neg h5,if_pos h2,hqp,fu,fq];rfl
        have HLd:=H9 (tF.o.trans hld);rw[hqp] at HPA;obtain⟨k,rfl⟩:∃k,m=k+1:=⟨m-1,by have h1:=HPA.o.len;rw[aW] at h1;simp at h1;omega⟩;obtain⟨g,rfl,⟨v,cv⟩,fv,hc1,hby⟩:=HPA.o.bytes;have J8:=H9 (hby e.bytes s.bo s.gK nb HBy.o.1 WE.o.symm);have m0:(0:Int)<=(k:Int):=by omega
        have m1:(k:Int)<(k:Int)+1:=by omega
        have m2:((k+1:Nat):Int)-1=(k:Int):=by omega
        clear h5 h2 hld hlead tF hpos hqp hby
        generalize e.kind=ek at *;go_wp2;go_roundw
        case rel=>exact⟨i+1,k+1,some ⟨g,0,none⟩,cap',by omega,by go_num,rfl,by rw[HLd.o];exact J8.o⟩
        case measure=>simp[intOf];omega
      . have t2:(e.kind==2)=false:=aS.2 h2;have hld:Fm.laid (Fm.pR (es.take i)) e=Fm.pR (es.take i):=by unfold Fm.laid;rw[if_neg h5,if_neg h2]
        have HLd:=H9 (tF.o.trans hld);clear h5 h2 hld hlead tF;generalize e.kind=ek at *;go_wp2;go_roundw
        case rel=>exact⟨i+1,m,gW,cap',by omega,by go_num,rfl,by rw[HLd.o];exact HPA.o⟩
        case measure=>simp[intOf];omega
  . obtain rfl:i=es.length:=by omega
    go_wp2;go_ret;refine⟨gW,cap',m,rfl,?_⟩;have:=HP.o;rw[bP] at this;exact this
inductive ZT (w:World)(s l:av)(e:Ending)(w':World):Prop
 | no (c:Nat) (hc:c≠0) (h:Fm.lK s=false∧c=5∨Fm.lK s=true∧Fm.close (Fm.fold (Fm.mark s) Fm.start l)=c) (he:e=.returned (.tuple #[.slice none 0 0,.int .i64 (c:Int)])) (hb:aj w w')
 | yes (hm:Fm.lK s=true) (h:Fm.close (Fm.fold (Fm.mark s) Fm.start l)=0) (w1:World) (hz:w.heap.size<=w1.heap.size) (ao:ak) (cap n:Nat) (he:e=.returned (.tuple #[.slice ao n cap,.int .i64 0])) (hP:qd w1 (fun k=>w.heap.size<=k) (Fm.pR (lY (Fm.outs (Fm.mark s) Fm.start l))) ao cap n w') (hb:aj w w')
theorem wW {s:av}(h:Fm.lK s=true):TN (Fm.mark s) Fm.start:=by
 obtain⟨h1,h2⟩:=Ag h;obtain⟨a,b,c⟩:=Fm.DW s h1 h2;exact⟨Fm.Good.start (by omega),a,b,by omega,aM _⟩
theorem Xv (s:ay)(l:av)(bo:ak)(gK n:Nat)(w:World)(hB:iH w bo gK l)(hn:l.length=n)(hl:n<=20000):
 Calls prog 149 #[.string s,.slice bo n gK] w fun e w'=>ZT w s.data.toList l e w':=by
 have UW:=H9 (Mq s w);have HB:=H9 hB;have HN:=H9 hn
 clear hB hn;go_enter func149,ntmps149;go_wp2_with fail
 refine UW.o.mono ?_;intro e w1 hF;cases hF with
 | no hm he hb =>
   subst he;have HM:=H9 hm;have F4:=H9 hb
   clear hm hb;go_wp2;go_ret2;exact .no 5 (by decide) (Or.inl ⟨HM.o,rfl⟩) rfl F4.o
 | yes hm g he hF hb =>
   subst he;have hz:=hb.size;have HM:=H9 hm;have F4:=H9 hb
   have rD:l≠[]->∀a,bo=some a->¬w.heap.size<=a.block:=fun hne a ea=>by
    subst ea;have hp:0<l.length:=fE.2 hne;have:=gq w _ (HB.o.cell 0 hp);rw[add_block] at this;omega
   have oW:=H9 (JM w1 _ g (Fm.mark s.data.toList) Fm.start l bo gK n hF (wW hm) (HB.o.stay hb) rD HN.o hl);clear hm hF hb hz rD;go_wp2_with fail
   refine oW.o.mono ?_;rintro e w2 ⟨ao,cap,k,S',So',he,hk,hR,hO,hd,hS,hSo,hT⟩;subst he;have HB2:=H9 (F4.o.trans (hT.below (B:=w.heap.size) (fun k e=>e) F4.o.size));have Am:=H9 (Tz w2 S' g _ _ hR);have nO:=Fm.nI (by have:=(wW HM.o).long;omega) l (wW HM.o).good;have hjl:=uH (Fm.outs (Fm.mark s.data.toList) Fm.start l);have hk4:k<=40000:=by have:=HN.o;omega
   have HGt:=H9 (O4 w2 (fun k=>w.heap.size<=k) ao cap k _ (hO.all.mono (fun i _ e=>dG F4.o.size (hSo i e))).aeO hk.symm (by omega) (Fm.VQ _ _));clear hk hR hO hd hS hSo hT nO hjl;generalize hcc:Fm.close (Fm.fold (Fm.mark s.data.toList) Fm.start l)=cc at *;have HCc:=H9 hcc;clear hcc;go_wp2_with fail
   refine Am.o.mono ?_;rintro e w3 ⟨rfl,hw⟩;subst hw;by_cases hc:cc=0
   . have tc:((cc:Int) != 0)=false:=by rw[hc];rfl
     have HC:=H9 hc;clear hc;go_wp2_with fail
     refine HGt.o.mono ?_;rintro e w4 ⟨gW,cap',m,rfl,hP⟩;have HP:=H9 hP;clear hP;go_wp2;go_ret2;exact .yes HM.o (HCc.o.trans HC.o) w3 HB2.o.size gW cap' m rfl HP.o (then_ HB2.o HP.o.below)
   . have tc:((cc:Int) != 0)=true:=by rw[cZ];omega
     have HC:=H9 hc;clear hc;go_wp2;go_ret2;exact .no cc HC.o (Or.inr ⟨HM.o,HCc.o⟩) rfl HB2.o
theorem xY (e:iN)(s:EvS)(ys:List Value)(h:e.cells s=ys):∀u∈ys,u.oneCell'=true:=fun u hu=>cells_one e s u (by rw[h];exact hu)
theorem jo.aao (W:World)(cs:Array Value)(n t:Nat)(fr:Nat×Nat){k:Nat}(hk:W.heap.size=k):jo (W.alloc (.cells cs t fr)) (some ⟨k,0,none⟩) n n cs.toList:=by
 subst hk;exact jo.made W cs n t fr
structure wX (w:World)(ao:ak)(cap n:Nat)(es:List Rq.Ev)(W:World):Prop where
 cell:jJ w #[.slice ao n cap] 58 W
 want:kM W (w.heap.size+1) 72 ao cap (es.map Rq.Ev.d)
 len:n=es.length
section
variable {w W W':World} {ao:ak} {cap n:Nat} {es:List Rq.Ev}
theorem wX.start (w:World):wX w none 0 0 [] (w.alloc (.cells #[.slice none 0 0] 58)):=⟨jJ.made w _ _,kM.nil _ _ _,rfl⟩
theorem wX.stay (h:wX w ao cap n es W)(hb:aj W W'):wX w ao cap n es W':=⟨h.cell.stay hb,h.want.stay hb,h.len⟩
theorem wX.push (h:wX w ao cap n es W)(ob:Obj):∃xs,gV (W.alloc ob) (w.heap.size+1) 72 12 ao cap n xs ∧
 ∀gW cap' w' (e : Rq.Ev) s ys, e.d.cells s = ys -> xZ W (fun k => w.heap.size + 1 <= k ∧ gL ao ≠ some k) e.d s -> gV w' (w.heap.size + 1) 72 12 gW cap' (n + 1) (xs ++ ys) -> (W.alloc ob).grownBy w' (gL ao) -> (gL gW = gL ao ∨ gL gW = some (W.alloc ob).heap.size) ->
   kM w' (w.heap.size+1) 72 gW cap' ((es++[e]).map Rq.Ev.d)∧jJ w #[.slice ao n cap] 58 w'∧aj w w'∧wX w gW cap' (n+1) (es++[e]) (w'.setCell ⟨w.heap.size,0,none⟩ (.slice gW (n+1) cap')):=by
 have hn:=h.len;obtain⟨ps,hO,hq⟩:=h.want.push ob;have hl:(es.map Rq.Ev.d).length=n:=by rw[aF];exact hn.symm
 rw[hl] at hO hq;refine⟨iX ps,hO,fun gW cap' w' e s ys hy hE Ao hG hat=>?_⟩;subst hy;obtain⟨h1,h2⟩:=hq gW cap' w' e.d s hE Ao hG hat;have hb:aj W (W.alloc ob):=(fJ _ _).alloc (aM _) _;have h3:jJ w #[.slice ao n cap] 58 w':=(h.cell.stay hb).turns h2 (fun k e=>by omega);have h4:=h3.put 0 (.slice gW (n+1) cap');have hT:Turns (fun k=>k=w.heap.size) w' (w'.setCell ⟨w.heap.size,0,none⟩ (.slice gW (n+1) cap')):=ig w.heap.size [.slice gW (n+1) cap'] 0 w';have h1':kM w' (w.heap.size+1) 72 gW cap' ((es++[e]).map Rq.Ev.d):=by rw[bG];exact h1
 refine⟨h1',h3,h3.below,⟨h4,?_,by rw[aW,hn];rfl⟩⟩;obtain⟨qs,g1,g2,g3⟩:=h1';have hr:∀a,gW=some a->¬a.block=w.heap.size:=fun a e k=>by have:=(g2.block a e).1;omega
 refine⟨qs,g1,g2.turns hT hr,fun p hp=>?_⟩;exact((g3 p hp).turns hT (fun k f g=>by omega))
end
theorem mV (w W:World)(ao:ak)(cap n c:Nat)(es:List Rq.Ev)(h:wX w ao cap n es W)(hn:n<=1000000):
 Calls prog 41 #[.int .i64 (c:Int),.pointer (some ⟨w.heap.size,0,none⟩)] W fun e w'=>∃a2 c2,e=.returned (.tuple #[.slice a2 (n+1) c2,.bool false])∧kM w' (w.heap.size+1) 72 a2 c2 ((es++[Rq.Ev.fail c]).map Rq.Ev.d)∧aj w w':=by
 obtain⟨xs,hO,hp⟩:=h.push (.cells #[.int .i64 4,.string ⟨#[]⟩,.string ⟨#[]⟩,.int .i64 0,.slice none 0 0,.int .i64 0,.slice none 0 0,.string ⟨#[]⟩,.string ⟨#[]⟩,.string ⟨#[]⟩,.slice none 0 0,.int .i64 (c:Int)] 72);have HO:=H9 hO;have HP:=H9 hp
 have c0:W.cell? ⟨w.heap.size,0,none⟩=some (.slice ao n cap):=h.cell.cell 0;have HZ:Hid (w.heap.size+1<=W.heap.size):=h.cell.lt;obtain⟨i0,hi0,hz0,hz1,hz2⟩:=info_parts Ah;have Hi:=H9 hi0;have kK:=H9 hz0;have kH:=H9 hz1;have kL:=H9 hz2
 clear hi0 hz0 hz1 hz2 hO hp h;go_enter func41,ntmps41;go_wp2_with (at_builtin;refine gT rfl (.tmp 5) (.tmp 8) 58 rfl (w.heap.size+1) 72 i0 (.agg #[.int .i64 0,.string ⟨#[]⟩,.string ⟨#[]⟩,.int .i64 0,.slice none 0 0,.int .i64 0,.slice none 0 0,.string ⟨#[]⟩,.string ⟨#[]⟩,.string ⟨#[]⟩,.slice none 0 0,.int .i64 0]) 12 184 underlying58 Hi.o kK.o kH.o kL.o rfl (by decide) rfl HO.o rfl (jo.made _ _ 1 _ _) rfl (xY (Rq.Ev.fail c).d ⟨none,0,none,0,none,0⟩ _ rfl) (by omega) (by omega) (by rw[fZ];have:=HZ.o;omega) ?_;intro a3 c3 w3 hO hG hat;have HQ:=H9 (HP.o a3 c3 w3 (.fail c) ⟨none,0,none,0,none,0⟩ _ rfl ⟨nE.nil _ _,ko.nil _ _,ko.nil _ _⟩ hO hG hat);clear hO hG hat)
 go_ret2;exact⟨a3,c3,rfl,HQ.o.1,HQ.o.2.2.1⟩
def uw (w:World)(b:av)(e:Ending)(w':World):Prop:=∃a2 c2,e=.returned (.tuple #[.slice a2 (Rq.of b).1.length c2,.bool (Rq.of b).2])∧kM w' (w.heap.size+1) 72 a2 c2 ((Rq.of b).1.map Rq.Ev.d)∧aj w w'
theorem uw.of {w:World}{b:av}{e:Ending}{w':World}{es:List Rq.Ev}{bz:Bool}{a2:ak}{c2 n:Nat}(hof:Rq.of b=(es,bz))(hn:n=es.length)(he:e=.returned (.tuple #[.slice a2 n c2,.bool bz]))(hw:kM w' (w.heap.size+1) 72 a2 c2 (es.map Rq.Ev.d))(hB:aj w w'):uw w b e w':=by
 refine⟨a2,c2,?_,by rw[hof];exact hw,hB⟩;rw[hof,he,hn]
structure afx (w:World)(b:av)(p:Nat)(ao:ak)(ca n:Nat)(es:List Rq.Ev)(f:Nat)(wr:World):Prop where
 rs:wX w ao ca n es wr
 f_:(b.drop p).length<f+1
 PW:Rq.of b=(es++(Rq.go (f+1) (b.drop p)).1,(Rq.go (f+1) (b.drop p)).2)
 few:n<=3*p
structure aas (wH:World)(h:Rq.Hd)(fo:ak)(gM nf:Nat)(W:World):Prop where
 one:jJ wH #[.string ⟨h.method.toArray⟩,.string ⟨h.target.toArray⟩,.int .i64 (h.minor:Int),.slice fo nf gM,.int .i64 0] 68 W
 row:gV W (wH.heap.size+1) 111 2 fo gM nf (gU (Rq.ny h.fields))
 len:nf=h.fields.length
structure abq (w wH:World)(b:av)(p:Nat)(ao:ak)(ca n:Nat)(es:List Rq.Ev)(f f2:Nat)(h:Rq.Hd)(fo:ak)(gM nf:Nat)(wr:World):Prop where
 hb:aas wH h fo gM nf wr
 f_:(b.drop p).length<f2+1
 PW:Rq.of b=(es++(Rq.goH f h (Rq.rH (f2+1) (b.drop p) h.fields)).1,(Rq.goH f h (Rq.rH (f2+1) (b.drop p) h.fields)).2)
 good:Rq.nH h
theorem aas.more {wH W w4:World}{h:Rq.Hd}{fo a4:ak}{gM nf c4:Nat}{nm vl:ay}(hh:aas wH h fo gM nf W){W3:World}(hb:aj W W3)(hO:gV w4 (wH.heap.size+1) 111 2 a4 c4 (nf+1) (gU (Rq.ny h.fields)++[.string nm,.string vl]))(hG:W3.grownBy w4 (gL fo)):
 jJ wH #[.string ⟨h.method.toArray⟩,.string ⟨h.target.toArray⟩,.int .i64 (h.minor:Int),.slice fo nf gM,.int .i64 0] 68 w4 ∧
 aas wH { h with fields:=h.fields++[(nm.data.toList,vl.data.toList)] } a4 c4 (nf+1) (w4.setCell ⟨wH.heap.size,3,none⟩ (.slice a4 (nf+1) c4)):=by
 have h1:jJ wH #[.string ⟨h.method.toArray⟩,.string ⟨h.target.toArray⟩,.int .i64 (h.minor:Int),.slice fo nf gM,.int .i64 0] 68 w4:=(hh.one.stay hb).turns (S:=fun k=>gL fo=some k) (Turns.iZ hG (fun k e=>e)) (fun k e=>by
  cases fo with
  | none=>cases e
  | some a=>injection e with e;subst e;exact(hh.row.block a rfl).1)
 have hT:Turns (fun k=>k=wH.heap.size) w4 (w4.setCell ⟨wH.heap.size,3,none⟩ (.slice a4 (nf+1) c4)):=ig wH.heap.size [.slice a4 (nf+1) c4] 3 w4;refine⟨h1,⟨h1.put 3 _,?_,by show nf+1=(h.fields++[(nm.data.toList,vl.data.toList)]).length;rw[aW,hh.len];rfl⟩⟩;have h2:=hO.turns hT (fun a e k=>by have:=(hO.block a e).1;omega);have e1:gU (Rq.ny (h.fields++[(nm.data.toList,vl.data.toList)]))=gU (Rq.ny h.fields)++[.string nm,.string vl]:=by
  rw[Rq.yP,qB];rfl
 show gV _ _ _ _ _ _ _ (gU (Rq.ny (h.fields++[(nm.data.toList,vl.data.toList)])));rw[e1];exact h2
structure Yf (w w5:World)(b:av)(f:Nat)(a3:ak)(c3 n3:Nat)(es3:List Rq.Ev)(p3:Nat)(body:av)(bo:ak)(bc:Nat)(over:Bool)(c:Nat)(wd:World):Prop where
 rs:wX w a3 c3 n3 es3 wd
 bytes:ko wd (fun k=>w5.heap.size<=k) bo bc body
 below:aj w5 wd
 PW:Rq.of b=(es3++Rq.some_ body++(Rq.rest f (b.drop p3) over c).1,(Rq.rest f (b.drop p3) over c).2)
theorem Bt {w w5 w6:World}{b:av}{f:Nat}{a3:ak}{c3 n3:Nat}{es3:List Rq.Ev}{p3:Nat}{body:av}{bo:ak}{bc:Nat}{ov:Bool}{c:Nat}(hr:wX w a3 c3 n3 es3 w5)(hO:iF w6 w5.heap.size 5 bo bc body)(hb:aj w5 w6)(hof:Rq.of b=(es3++Rq.some_ body++(Rq.rest f (b.drop p3) ov c).1,(Rq.rest f (b.drop p3) ov c).2)):Yf w w5 b f a3 c3 n3 es3 p3 body bo bc ov c w6 :=
 ⟨hr.stay hb,⟨hO.xg,fun _ a e=>(hO.block a e).1⟩,hb,hof⟩
theorem zi {w5 w6:World}(h:w5.grownBy w6 (gL none)):aj w5 w6:=(fJ _ _).grown h (aM _) (fun q e=>by simp[gL] at e)
def Cx:List Nat->Code->Code
 | [],c=>c
 | 0::p,.seq x _=>Cx p x
 | _::p,.seq _ y=>Cx p y
 | _::p,.loop c=>Cx p c
 | _::p,.block _ c=>Cx p c
 | _::p,.scope c=>Cx p c
 | 0::p,.cond _ x _=>Cx p x
 | _::p,.cond _ _ y=>Cx p y
 | _,c=>c
noncomputable def aat:Code:=Cx [1,1,1,1,1,1,1,1,1,1,1,1,1,1,1,1,1,1,1,1,1,0,1] (Tryz.f19.body.getD .skip)
theorem MP (b:av)(bb oo cap:Nat)(w w5:World)(q kI f' n:Nat)(k:Int)(a3:ak)(c3:Nat)(es:List Rq.Ev)(h:Rq.Hd)(hb:iH w (some ⟨bb,oo,none⟩) cap b)(h9:b.length<=20000)(hlo:q+kI<=b.length)(A9:aj w w5)(Yz:wX w a3 c3 (n+1) (es++[.head { h with length:=k }]) w5)(hln:Rq.len h=.inr k)(hof:Rq.of b=(es++(Rq.goB (f'+1) h (b.drop (q+kI))).1,(Rq.goB (f'+1) h (b.drop (q+kI))).2))(Q0:Exit->Act->World->Prop)
 (x1 x2 x3 x4 x5 x7 x8 x9 x11 x12 x13 x17 x18 x19 x20 x21 x22 x23 x24 x25 x26 x27 x28 x29 x30 x31 x32 x33 x34 x35 x36 x37 x38 x39 x40 x41 x42 x43 x44 x45 x46 x47 x48 x49 x50 x51 x52 x53 x54 x55 x56 x57 x58 x59 x60 x61 x62 x63 x64 x65 x66 x67 x68 x69 x70 x71 x72 x73 x74 x75 x76 x77 x78 x79 x80 x81 x82 x83 x84 x85 x86 x87 x88 x89 x90 x91 x92 x93 x94 x95 x96 x97 x98 x99 x100 x101 x102 x103 x104 x105 afy x107 afz afA afB afC x112 x113 x114 x115 afD afE afF afG afH afI afJ afK afL afM afN afO ai9 aja ajb ajc ajd aje ajf ajg ajh aji ajj ajk ajl ajm ajn ajo ajp ajq ajr ajs ajt x150 x151 x152 x153 aju ajv ajw x157 x158 x159 x160 ajx ajy ajz ajA ajB afP x167 x168 afQ afR afS afT afU afV afW afX afY afZ af0 af2 af3 af4 af5 af6 af7 af8 af9:Value)
 (abr:∀(w':World) (y6 y8 y10 y15 y16 aga agb agc agd agf agh agi agj agk agl agm agn agp agq agr ags agt agu agv agw agx y150 y151 y152 y153 agy agz agA y157 y158 y159 y160 agB agC agD agE agF:Value),(∃(p3:Nat) (body:av) (bo:ak) (bc:Nat) (ov:Bool) (c nb:Nat),y6=.int .i64 p3∧y10=.int .i64 (c:Int)∧y15=.slice bo nb bc∧y16=.bool ov∧nb=body.length∧q+kI<=p3∧(ov=true->c=0->p3<=b.length)∧Yf w w5 b (f'+1) a3 c3 (n+1) (es++[.head { h with length:=k }]) p3 body bo bc ov c w')->Q0 .normal ⟨(List.toArray ((.slice (some ⟨bb,oo,none⟩) b.length cap)::x1::x2::x3::x4::x5::(y6)::x7::(y8)::x9::(y10)::x11::x12::x13::(.int .i64 k)::(y15)::(y16)::x17::x18::x19::x20::x21::x22::x23::x24::x25::x26::x27::x28::x29::x30::x31::x32::x33::x34::x35::x36::x37::x38::x39::x40::x41::x42::x43::x44::x45::x46::x47::x48::x49::x50::x51::x52::x53::x54::x55::x56::x57::x58::x59::x60::x61::x62::x63::x64::x65::x66::x67::x68::x69::x70::x71::x72::x73::x74::x75::x76::x77::x78::x79::x80::x81::x82::x83::x84::x85::x86::x87::x88::x89::x90::x91::x92::x93::x94::x95::x96::x97::x98::x99::x100::x101::x102::x103::x104::x105::afy::x107::afz::afA::afB::afC::x112::x113::x114::x115::afD::afE::afF::afG::afH::afI::afJ::afK::afL::afM::afN::afO::(.bool (decide (k≥0)))::(aga)::(agb)::(agc)::(agd)::(agf)::(agh)::(agi)::(agj)::(agk)::(agl)::(agm)::(agn)::(agp)::(agq)::(agr)::(ags)::(agt)::(agu)::(agv)::(agw)::(agx)::(y150)::(y151)::(y152)::(y153)::(agy)::(agz)::(agA)::(y157)::(y158)::(y159)::(y160)::(agB)::(agC)::(agD)::(agE)::(agF)::afP::x167::x168::afQ::afR::afS::afT::afU::afV::afW::afX::afY::afZ::af0::af2::af3::af4::af5::af6::af7::af8::af9::[])),[]⟩ w') :
 Code.wp prog aat Q0 ⟨(List.toArray ((.slice (some ⟨bb,oo,none⟩) b.length cap)::x1::x2::x3::x4::x5::(.int .i64 ((q:Int)+kI))::x7::x8::x9::(.int .i64 0)::x11::x12::x13::(.int .i64 k)::(.slice none 0 0)::(.bool true)::x17::x18::x19::x20::x21::x22::x23::x24::x25::x26::x27::x28::x29::x30::x31::x32::x33::x34::x35::x36::x37::x38::x39::x40::x41::x42::x43::x44::x45::x46::x47::x48::x49::x50::x51::x52::x53::x54::x55::x56::x57::x58::x59::x60::x61::x62::x63::x64::x65::x66::x67::x68::x69::x70::x71::x72::x73::x74::x75::x76::x77::x78::x79::x80::x81::x82::x83::x84::x85::x86::x87::x88::x89::x90::x91::x92::x93::x94::x95::x96::x97::x98::x99::x100::x101::x102::x103::x104::x105::afy::x107::afz::afA::afB::afC::x112::x113::x114::x115::afD::afE::afF::afG::afH::afI::afJ::afK::afL::afM::afN::afO::(.bool (decide (k≥0)))::ai9::aja::ajb::ajc::ajd::aje::ajf::ajg::ajh::aji::ajj::ajk::ajl::ajm::ajn::ajo::ajp::ajq::ajr::ajs::ajt::x150::x151::x152::x153::aju::ajv::ajw::x157::x158::x159::x160::ajx::ajy::ajz::ajA::ajB::afP::x167::x168::afQ::afR::afS::afT::afU::afV::afW::afX::afY::afZ::af0::af2::af3::af4::af5::af6::af7::af8::af9::[])),[]⟩ w5:=by
 have HB:=H9 hb;have hcap:=hb.1;have Yg:=H9 A9;have FM:=H9 Yz;have HKr:=H9 (Rq.xD hln);have HX:=H9 abr;unfold Rq.goB at hof;rw[hln] at hof;simp only at hof;have Yh:=H9 hof;have Ou:Hid ((b.drop (q+kI)).length=b.length-(q+kI)):=bV;obtain⟨j0,hj0,hy0,hy1,hy2⟩:=info_parts jO;have Hj:=H9 hj0;have M0:=H9 hy0;have M4:=H9 hy1;have M5:=H9 hy2
 clear hj0 hy0 hy1 hy2 hb A9 Yz hln abr hof;conv=>arg 2;whnf
 by_cases hk0:0<=k
 . obtain⟨kk,rfl⟩:=Int.eq_ofNat_of_zero_le hk0;have t1:decide ((kk:Int)≥0)=true:=aI (by omega);have hk4:kk<=4000:=by rcases HKr.o with e | e <;> omega
   have vC:=Yh.o;rw[if_pos hk0] at vC;by_cases hen:kk<=b.length-(q+kI)
   . have t2:decide ((b.length:Int)-((q:Int)+kI)≥kk)=true:=aI (by omega);rw[if_pos (by rw[Ou.o];simpa using hen)] at vC;simp only[Int.toNat_natCast,eY] at vC;have MQ:Hid (Rq.of b=((es++[.head { h with length:=(kk:Int) }])++Rq.some_ ((b.drop (q+kI)).take kk)++(Rq.rest (f'+1) (b.drop (q+kI+kk)) true 0).1,(Rq.rest (f'+1) (b.drop (q+kI+kk)) true 0).2)):=by
      unfold Hid;rw[vC];simp
     clear vC Yh hk0;have HIs:Hid (∀jy c2,c2=cap-(q+kI)->(cap≠q+kI->jy=some ⟨bb,oo+(q+kI),none⟩)->iH w5 jy c2 (((b.drop (q+kI)).take kk))):=fun jy c2 hc ha=>by
      subst hc;have:=(HB.o.stay Yg.o).cut (gW:=jy) (q+kI) (q+kI+kk) (by omega) (by omega) (fun e=>by rw[ha e];simp[gI]);rw[show q+kI+kk-(q+kI)=kk by omega] at this;exact this
     by_cases hac:cap=q+kI
     . obtain rfl:kk=0:=by omega
       subst hac;go_wp2_with (at_builtin;refine iY rfl (.tmp 136) (.tmp 142) 31 rfl w5.heap.size 5 j0 underlying31 Hj.o M0.o M4.o M5.o (l:=[]) rfl rfl (iF.nil _ _ _) (l2:=(b.drop (q+kI)).take 0) rfl (by rw[bY,Ou.o];omega) (HIs.o _ _ (by omega) (fun e=>absurd rfl e)) (by omega) (aM _) ?_;intro bo6 bc6 w6 vI Ot;have yu:=H9 vI;have Yu:=H9 Ot;clear vI Ot)
       exact HX.o _ _ _ _ _ _ _ _ _ _ _ _ _ _ _ _ _ _ _ _ _ _ _ _ _ _ _ _ _ _ _ _ _ _ _ _ _ _ _ _ _ _ _ ⟨q+kI+0,(b.drop (q+kI)).take 0,bo6,bc6,true,0,0,by go_num,rfl,by simp,rfl,by simp,by omega,(fun _ _=>by omega),Bt FM.o (by simpa using yu.o) (zi Yu.o) MQ.o⟩
     . go_wp2_with (at_builtin;refine iY rfl (.tmp 136) (.tmp 142) 31 rfl w5.heap.size 5 j0 underlying31 Hj.o M0.o M4.o M5.o (l:=[]) rfl rfl (iF.nil _ _ _) (l2:=(b.drop (q+kI)).take kk) rfl (by rw[bY,Ou.o];omega) (HIs.o _ _ (by omega) (fun _=>by simp)) (by omega) (aM _) ?_;intro bo6 bc6 w6 vI Ot;have yu:=H9 vI;have Yu:=H9 Ot;clear vI Ot)
       exact HX.o _ _ _ _ _ _ _ _ _ _ _ _ _ _ _ _ _ _ _ _ _ _ _ _ _ _ _ _ _ _ _ _ _ _ _ _ _ _ _ _ _ _ _ ⟨q+kI+kk,(b.drop (q+kI)).take kk,bo6,bc6,true,0,kk,by go_num,rfl,by simp,rfl,by rw[bY,Ou.o];omega,by omega,(fun _ _=>by omega),Bt FM.o (by simpa using yu.o) (zi Yu.o) MQ.o⟩
   . have t2:decide ((b.length:Int)-((q:Int)+kI)≥kk)=false:=aJ (by omega);rw[if_neg (by rw[Ou.o];simpa using hen)] at vC;have MQ:Hid (Rq.of b=((es++[.head { h with length:=(kk:Int) }])++Rq.some_ (b.drop (q+kI))++(Rq.rest (f'+1) (b.drop b.length) false 0).1,(Rq.rest (f'+1) (b.drop b.length) false 0).2)):=by
      unfold Hid;rw[vC,dY];simp
     clear vC Yh hk0;have HIs:Hid (∀jy c2,c2=cap-(q+kI)->(cap≠q+kI->jy=some ⟨bb,oo+(q+kI),none⟩)->iH w5 jy c2 (b.drop (q+kI))):=fun jy c2 hc ha=>by
      subst hc;have:=(HB.o.stay Yg.o).cut (gW:=jy) (q+kI) b.length (by omega) (by omega) (fun e=>by rw[ha e];simp[gI]);rw[dO (by rw[Ou.o];omega)] at this;exact this
     by_cases hac:cap=q+kI
     . have e1:b.length=q+kI:=by omega
       have e3:b.length-(q+kI)=0:=by omega
       have hnil:b.drop (q+kI)=[]:=aK (by omega);have agG:=H9 MQ.o;rw[hnil] at agG;have HE1:=H9 e1;clear e1 hnil;subst hac;go_wp2;exact HX.o _ _ _ _ _ _ _ _ _ _ _ _ _ _ _ _ _ _ _ _ _ _ _ _ _ _ _ _ _ _ _ _ _ _ _ _ _ _ _ _ _ _ _ ⟨b.length,[],none,0,false,0,0,rfl,rfl,rfl,rfl,rfl,by have:=HE1.o;omega,(fun _ _=>aM _),Bt FM.o (iF.nil _ _ _) (fJ _ _) agG.o⟩
     . go_wp2_with (at_builtin;refine iY rfl (.tmp 147) (.tmp 150) 31 rfl w5.heap.size 5 j0 underlying31 Hj.o M0.o M4.o M5.o (l:=[]) rfl rfl (iF.nil _ _ _) (l2:=b.drop (q+kI)) rfl Ou.o (HIs.o _ _ (by omega) (fun _=>by simp)) (by omega) (aM _) ?_;intro bo6 bc6 w6 vI Ot;have yu:=H9 vI;have Yu:=H9 Ot;clear vI Ot)
       exact HX.o _ _ _ _ _ _ _ _ _ _ _ _ _ _ _ _ _ _ _ _ _ _ _ _ _ _ _ _ _ _ _ _ _ _ _ _ _ _ _ _ _ _ _ ⟨b.length,b.drop (q+kI),bo6,bc6,false,0,b.length-(q+kI),rfl,rfl,by simp,rfl,Ou.o.symm,by omega,(fun _ _=>aM _),Bt FM.o (by simpa using yu.o) (zi Yu.o) MQ.o⟩
 . obtain rfl:k=-1:=by rcases HKr.o with e | e <;> omega
   have t1:decide ((-1:Int)≥0)=false:=by decide
   have vC:=Yh.o;rw[if_neg hk0,eY] at vC;have MQ:Hid (Rq.of b=((es++[.head { h with length:=-1 }])++Rq.some_ (Ck.of (b.drop (q+kI))).body++(Rq.rest (f'+1) (b.drop (q+kI+(Ck.of (b.drop (q+kI))).used)) (Ck.of (b.drop (q+kI))).over (Ck.of (b.drop (q+kI))).code).1,(Rq.rest (f'+1) (b.drop (q+kI+(Ck.of (b.drop (q+kI))).used)) (Ck.of (b.drop (q+kI))).over (Ck.of (b.drop (q+kI))).code).2)):=by
    unfold Hid;rw[vC];simp
   have HUs:Hid ((Ck.of (b.drop (q+kI))).over=true->(Ck.of (b.drop (q+kI))).code=0->q+kI+(Ck.of (b.drop (q+kI))).used<=b.length):=fun _ _=>by
    have:=Ck.Q9 (b.drop (q+kI));rw[Ou.o] at this;omega
   have hus:=Ck.Q9 (b.drop (q+kI));rw[Ou.o] at hus;have HCh:Hid (∀jy c2,c2=cap-(q+kI)->(cap≠q+kI->jy=some ⟨bb,oo+(q+kI),none⟩)->Calls prog 46 #[.slice jy (b.length-(q+kI)) c2] w5 fun e w'=>lC w5 (b.drop (q+kI)) e w'):=fun jy c2 hc ha=>by
    subst hc;have:=(HB.o.stay Yg.o).cut (gW:=jy) (q+kI) b.length (by omega) (by omega) (fun e=>by rw[ha e];simp[gI]);rw[dO (by rw[Ou.o];omega)] at this;have h2:=J2 (b.drop (q+kI)) jy (cap-(q+kI)) w5 this (by rw[Ou.o];omega);rw[Ou.o] at h2;exact h2
   clear vC Yh hk0;by_cases hac:cap=q+kI
   . have e3:b.length-(q+kI)=0:=by omega
     have M8:=H9 (HCh.o (some ⟨bb,oo,none⟩) 0 (by omega) (fun e=>absurd hac e));rw[e3] at M8;unfold lC at M8;generalize Ck.of (b.drop (q+kI))=C at *;subst hac;go_wp2_with fail
     refine M8.o.mono ?_;rintro e w6 ⟨bo6,bc6,rfl,vI,hb6⟩;have yu:=H9 vI;have vP:=H9 hb6
     clear vI hb6;go_wp2;exact HX.o _ _ _ _ _ _ _ _ _ _ _ _ _ _ _ _ _ _ _ _ _ _ _ _ _ _ _ _ _ _ _ _ _ _ _ _ _ _ _ _ _ _ _ ⟨q+kI+C.used,C.body,bo6,bc6,C.over,C.code,C.body.length,by go_num,rfl,rfl,rfl,rfl,by omega,HUs.o,Bt FM.o yu.o vP.o MQ.o⟩
   . have M8:=H9 (HCh.o (some ⟨bb,oo+(q+kI),none⟩) (cap-(q+kI)) rfl (fun _=>rfl));unfold lC at M8;generalize Ck.of (b.drop (q+kI))=C at *;go_wp2_with fail
     refine M8.o.mono ?_;rintro e w6 ⟨bo6,bc6,rfl,vI,hb6⟩;have yu:=H9 vI;have vP:=H9 hb6
     clear vI hb6;go_wp2;exact HX.o _ _ _ _ _ _ _ _ _ _ _ _ _ _ _ _ _ _ _ _ _ _ _ _ _ _ _ _ _ _ _ _ _ _ _ _ _ _ _ _ _ _ _ ⟨q+kI+C.used,C.body,bo6,bc6,C.over,C.code,C.body.length,by go_num,rfl,rfl,rfl,rfl,by omega,HUs.o,Bt FM.o yu.o vP.o MQ.o⟩
theorem Gq (ab:ak)(cap:Nat)(w:World)(hb:iH w ab cap []):
 Calls prog 19 #[.slice ab 0 cap] w fun e w'=>∃a2 c2,e=.returned (.tuple #[.slice a2 (Rq.of []).1.length c2,.bool (Rq.of []).2])∧FU w' a2 c2 ((Rq.of []).1.map Rq.Ev.d)∧aj w w':=by
 have hn:=hb.2.1;clear hb;have HB:Hid (aj w (w.alloc (.cells #[.slice none 0 0] 58))):=(fJ _ _).alloc (aM _) _;have x0:(w.alloc (.cells #[.slice none 0 0] 58)).cell? ⟨w.heap.size,0,none⟩=some (.slice none 0 0):=World.cell?_alloc_mark w _ _ _ 0;by_cases hc:cap=0
 . subst hc;go_enter func19,ntmps19;go_wp2;refine wp_loop_rounds 1 ?_;rw[rounds_succ];go_wp2_with fail
   refine(Al _ _ (fun _=>rfl) _).mono ?_;rintro e w1 ⟨rfl,hw⟩;subst hw;go_wp2;(try simp only[Exit.inBlock,Exit.then]);go_ret2;exact⟨none,0,rfl,FU.nil _,HB.o⟩
 . obtain⟨a,rfl⟩:∃a,ab=some a:=by
    cases ab with
    | none=>exact absurd (hn rfl) hc
    | some a=>exact⟨a,rfl⟩
   clear hn;go_enter func19,ntmps19;go_wp2;refine wp_loop_rounds 1 ?_;rw[rounds_succ];go_wp2_with fail
   refine(Al _ _ (fun e=>by cases e) _).mono ?_;rintro e w1 ⟨rfl,hw⟩;subst hw;go_wp2;(try simp only[Exit.inBlock,Exit.then]);go_ret2;exact⟨none,0,rfl,FU.nil _,HB.o⟩
end Go.Proofs.YtjmndjmhjleabaaGreatDoor