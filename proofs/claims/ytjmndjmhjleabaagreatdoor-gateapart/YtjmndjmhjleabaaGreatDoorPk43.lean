/- Small texts, one behind the other: GaA, SqH, StB, SpN, SqI, SqJ, StC, StD, StE, StF, FmD, FmE, FmF, FmG, FmH, FmI, FmJ, RqCln, RqBkA, RfReqA, RfReqR, RfReqBd, RfReqN. -/
import Derived.Test.YtjmndjmhjleabaaGreatDoorRqA
import Derived.Test.YtjmndjmhjleabaaGreatDoorPk39
import Derived.Test.YtjmndjmhjleabaaGreatDoorPk40
import Derived.Test.YtjmndjmhjleabaaGreatDoorFmC
import Derived.Test.YtjmndjmhjleabaaGreatDoorPk38
import Derived.Test.YtjmndjmhjleabaaGreatDoorPk22
open Go.Value renaming int->I,string->V,slice->Z,pointer->Q
open Go.IntKind renaming i64->J
open Go.Obj renaming cells->K
open Go.Ending renaming returned->Y
open Option renaming none->U,some->M
open Bool renaming false->F
open Or renaming inl->A,inr->R
open Go renaming World->X
set_option maxHeartbeats 6000000
set_option maxRecDepth 100000
open Go.Proofs.Tryz
namespace Go.Proofs.YtjmndjmhjleabaaGreatDoor
open Go.RowKit
structure R7 where
 gp:Nat
 fo:aj
 gL:Nat
 bo:aj
 gJ:Nat
def Zi (c:Gt.Cn)(x:R7):List Value:=[Q (M ⟨x.gp,0,U⟩),V ⟨c.hd.method.toArray⟩,V ⟨c.hd.target.toArray⟩,I J (c.hd.minor:Int),Z x.fo c.hd.fields.length x.gL,I J c.hd.length,Z x.bo c.body.length x.gJ]
def Qt (gs:Nat)(v:Nat->List Value):List Value:=Q (M ⟨gs,0,U⟩)::(v 0++(v 1++(v 2++v 3)))
def Eh (c:Nat->Gt.Cn)(x:Nat->R7):Nat->List Value:=fun k=>Zi (c k) (x k)
def upd {α:Type}(f:Nat->α)(k:Nat)(a:α):Nat->α:=fun i=>if i=k then a else f i
theorem iO {b:Type}(f:Nat->b)(k:Nat)(a:b):upd f k a k=a:=if_pos rfl
theorem upd_ne {b:Type}(f:Nat->b){k i:Nat}(a:b)(h:i≠k):upd f k a i=f i:=if_neg h
theorem upd_same {a:Type}(f:Nat->a)(k:Nat):upd f k (f k)=f:=by
 funext i;unfold upd;split
 . next h=>rw[h]
 . rfl
theorem qG {c:Type}(f:Nat->c)(k:Nat)(a b:c):upd (upd f k a) k b=upd f k b:=by
 funext i;unfold upd;split <;> rfl
theorem seven {l:List Value}(h:l.length=7):∃a b a2 c d e f,l=[a,b,a2,c,d,e,f]:=by
 match l,h with
 | [a,b,a2,c,d,e,f],_=>exact⟨a,b,a2,c,d,e,f,rfl⟩
theorem abH (gs:Nat)(v:Nat->List Value)(a:∀k,k<4->(v k).length=7){k:Nat}(f:k<4){j:Nat}(g:j<7):(Qt gs v).toArray[1+k*7+j]? = (v k)[j]?:=by
 obtain⟨i,l,m,n,o,p,q,b⟩:=seven (a 0 (by omega));obtain⟨r,s,t,u,w,x,y,c⟩:=seven (a 1 (by omega));obtain⟨z,B,C,D,G,H,L,d⟩:=seven (a 2 (by omega));obtain⟨N,O,P,S,T,W,s6,e⟩:=seven (a 3 (by omega));unfold Qt;rw[b,c,d,e];obtain rfl | rfl | rfl | rfl:k=0∨k=1∨k=2∨k=3:=by omega
 . rw[b];obtain rfl | rfl | rfl | rfl | rfl | rfl | rfl:j=0∨j=1∨j=2∨j=3∨j=4∨j=5∨j=6:=by omega
   all_goals rfl
 . rw[c];obtain rfl | rfl | rfl | rfl | rfl | rfl | rfl:j=0∨j=1∨j=2∨j=3∨j=4∨j=5∨j=6:=by omega
   all_goals rfl
 . rw[d];obtain rfl | rfl | rfl | rfl | rfl | rfl | rfl:j=0∨j=1∨j=2∨j=3∨j=4∨j=5∨j=6:=by omega
   all_goals rfl
 . rw[e];obtain rfl | rfl | rfl | rfl | rfl | rfl | rfl:j=0∨j=1∨j=2∨j=3∨j=4∨j=5∨j=6:=by omega
   all_goals rfl
theorem Zj (gs:Nat)(v:Nat->List Value)(a:∀k,k<4->(v k).length=7){k:Nat}(f:k<4){j:Nat}(g:j<7)(u:Value):(Qt gs v).set (1+k*7+j) u=Qt gs (upd v k ((v k).set j u)):=by
 obtain⟨i,l,m,n,o,p,q,b⟩:=seven (a 0 (by omega));obtain⟨r,s,t,w,x,y,z,c⟩:=seven (a 1 (by omega));obtain⟨B,C,D,G,H,L,N,d⟩:=seven (a 2 (by omega));obtain⟨O,P,S,T,W,s5,s6,e⟩:=seven (a 3 (by omega));obtain rfl | rfl | rfl | rfl:k=0∨k=1∨k=2∨k=3:=by omega
 . show _=Q (M ⟨gs,0,U⟩)::((v 0).set j u++(v 1++(v 2++v 3)));unfold Qt;rw[b,c,d,e];obtain rfl | rfl | rfl | rfl | rfl | rfl | rfl:j=0∨j=1∨j=2∨j=3∨j=4∨j=5∨j=6:=by omega
   all_goals rfl
 . show _=Q (M ⟨gs,0,U⟩)::(v 0++((v 1).set j u++(v 2++v 3)));unfold Qt;rw[b,c,d,e];obtain rfl | rfl | rfl | rfl | rfl | rfl | rfl:j=0∨j=1∨j=2∨j=3∨j=4∨j=5∨j=6:=by omega
   all_goals rfl
 . show _=Q (M ⟨gs,0,U⟩)::(v 0++(v 1++((v 2).set j u++v 3)));unfold Qt;rw[b,c,d,e];obtain rfl | rfl | rfl | rfl | rfl | rfl | rfl:j=0∨j=1∨j=2∨j=3∨j=4∨j=5∨j=6:=by omega
   all_goals rfl
 . show _=Q (M ⟨gs,0,U⟩)::(v 0++(v 1++(v 2++(v 3).set j u)));unfold Qt;rw[b,c,d,e];obtain rfl | rfl | rfl | rfl | rfl | rfl | rfl:j=0∨j=1∨j=2∨j=3∨j=4∨j=5∨j=6:=by omega
   all_goals rfl
theorem C8 (c:Nat->Gt.Cn)(x:Nat->R7)(k:Nat)(a:Gt.Cn)(b:R7):Eh (upd c k a) (upd x k b)=upd (Eh c x) k (Zi a b):=by
 funext i;unfold Eh upd;split <;> rfl
structure kQ (w:X)(g gs:Nat)(v:Nat->List Value):Prop where
 row:w.heap[g]? = M (K (Qt gs v).toArray 80 (0,0))
 seven:∀k,k<4->(v k).length=7
theorem kQ.store {w:X}{g gs:Nat}{v:Nat->List Value}(h:kQ w g gs v):w.cell? ⟨g,0,U⟩=M (Q (M ⟨gs,0,U⟩)):=fJ w g 0 _ _ _ h.row
theorem kQ.at_ {w:X}{g gs:Nat}{v:Nat->List Value}(h:kQ w g gs v){k:Nat}(a:k<4){j:Nat}(b:j<7){u:Value}(c:(v k)[j]? = M u):w.cell? ⟨g,1+k*7+j,U⟩=M u:=by
 rw[fJ w g _ _ _ _ h.row,abH gs v h.seven a b];exact c
theorem kQ.fz {w:X}{g gs:Nat}{v:Nat->List Value}(h:kQ w g gs v)(j:Nat):w.frozen? ⟨g,j,U⟩=F:=fK w g j _ _ h.row
theorem kQ.lt {w:X}{g gs:Nat}{v:Nat->List Value}(h:kQ w g gs v):g<w.heap.size:=(aK.1 h.row).1
theorem kQ.set {w:X}{g gs:Nat}{v:Nat->List Value}(h:kQ w g gs v){k:Nat}(a:k<4){j:Nat}(b:j<7)(u:Value):kQ (w.setCell ⟨g,1+k*7+j,U⟩ u) g gs (upd v k ((v k).set j u)):=by
 refine⟨?_,fun i c=>?_⟩
 . rw[fM w g _ _ _ _ h.row];congr 2;rw[<-Zj gs v h.seven a b];simp
 . unfold upd;split
   . rw[aO];exact h.seven k a
   . exact h.seven i c
inductive Ei
 | row
 | jR
 | rq (k:Nat)
 | fl (k:Nat)
 | bd (k:Nat)
 | ret
 | out
def FX (g gs:Nat)(s:Sr.Sh)(v:Nat->List Value)(n:Nat)(c:Nat->Gt.Cn)(x:Nat->R7)(z:Nat->Ob)(o:Ob):Ei->Ob
 | .row=>fun w S=>kQ w g gs v∧S g
 | .jR=>fun w S=>iH w S gs s
 | .rq k=>fun w S=>k<n->jH w S (x k).gp (c k).rq
 | .fl k=>fun w S=>(k<n->nD w S (x k).fo (x k).gL (c k).hd.fields.length (gT (Rq.nu (c k).hd.fields)))∧z k w S
 | .bd k=>fun w S=>k<n->gY w S 5 (x k).bo (x k).gJ (c k).body
 | .ret=>o
 | .out=>fun _ _=>True
theorem oq {g gs:Nat}{s:Sr.Sh}{v:Nat->List Value}{n:Nat}{c:Nat->Gt.Cn}{x:Nat->R7}{z:Nat->Ob}{o:Ob}(f:∀k,lN (z k))(i:lN o):∀d,lN (FX g gs s v n c x z o d)
 | .row=>⟨fun h e a=>⟨⟨e.row h.1.row (a g h.2),h.1.seven⟩,h.2⟩,fun h a=>⟨h.1,a g h.1.lt h.2⟩⟩
 | .jR=>⟨fun h e a=>iH.turns h e a,fun h a=>iH.mono h a⟩
 | .rq _=>⟨fun h e a b=>(h b).turns e a,fun h a b=>(h b).mono a⟩
 | .fl k=>⟨fun h e a=>⟨fun b=>(h.1 b).turns e a,(f k).turns h.2 e a⟩,fun h a=>⟨fun b=>(h.1 b).mono a,(f k).mono h.2 a⟩⟩
 | .bd _=>⟨fun h e a b=>(h b).turns e a,fun h a b=>(h b).mono a⟩
 | .ret=>i
 | .out=>lN.nE
def noZ:Nat->Ob:=fun _ _ _=>True
def Lb:Ob:=fun _ _=>True
def jB (w:X)(S:Nat->Prop)(g gs:Nat)(s:Sr.Sh)(c:Nat->Gt.Cn):Prop:=∃κ x,Held (FX g gs s (Eh c x) 4 c x noZ Lb) κ w∧∀k,κ k≠.out->S k
section
variable {w w':X} {S S':Nat->Prop} {g gs:Nat} {s:Sr.Sh} {c:Nat->Gt.Cn}
theorem jB.turns (h:jB w S g gs s c)(f:Turns S' w w')(i:∀k,S k->¬S' k):jB w' S g gs s c:=by
 obtain⟨j,x,l,a⟩:=h;refine⟨j,x,fun d=>?_,a⟩;by_cases b:d=.out
 . subst b;exact trivial
 . exact(oq (fun _=>lN.nE) lN.nE d).turns (l d) f (fun k e=>i k (a k (by rw[e];exact b)))
theorem jB.stay (h:jB w S g gs s c)(a:Below w.heap.size w w'):jB w' S g gs s c:=h.turns (Turns.of_below (S:=fun _=>False) a) (fun _ _ e=>e)
theorem jB.mono (h:jB w S g gs s c)(f:∀k,k<w.heap.size->S k->S' k):jB w S' g gs s c:=by
 obtain⟨i,x,j,l⟩:=h;refine⟨jc i w.heap.size .out,x,fun d=>?_,fun k a=>?_⟩
 . by_cases m:d=.out
   . subst m;exact trivial
   . exact(oq (fun _=>lN.nE) lN.nE d).mono (j d) (fun k a e=>(iZ a).trans e)
 . rcases aT k w.heap.size with b | b
   . rw[iZ b] at a;exact f k b (l k a)
   . exact absurd (qN b) a
theorem jB.jR (h:jB w S g gs s c):iH w S gs s:=by
 obtain⟨d,x,a,b⟩:=h;exact iH.mono (a .jR) (fun k _ e=>b k (by rw[e];intro h;cases h))
theorem jB.lt (h:jB w S g gs s c):g<w.heap.size:=by
 obtain⟨b,x,a,d⟩:=h;exact(a .row).1.lt
end
theorem S9 (a b:av):(a.toList==b.toList)=decide (a.data.toList=b.data.toList):=by
 rw[Lib.toList_data,Lib.toList_data,aG];simp
theorem oh.Kl {w:X}{S:Nat->Prop}{a c d g:Nat}{s:Sp.St}(h:oh w S a c d g s)(v:Int):oh (w.setCell ⟨g,1,U⟩ (I J v)) S a c d g ⟨s.l,v⟩∧Turns (fun k=>k=g) w (w.setCell ⟨g,1,U⟩ (I J v)):=by
 obtain⟨i,b,j,m,n⟩:=h;have f:Turns (fun k=>k=g) w (w.setCell ⟨g,1,U⟩ (I J v)):=Turns.setCell (fun k=>k=g) w _ _ rfl;exact⟨⟨i,b,fM w g 1 _ a _ j,m,n.turns f (fun k e o=>e.2 o)⟩,f⟩
theorem Iu (s:Sp.St)(S:Nat->Prop)(g:Nat)(w:X)(h:iU w S g s)(k:0<=s.last)(l:s.last<=1000000):
 Calls prog 158 #[Q (M ⟨g,0,U⟩)] w fun e w'=>e=Y (I J (s.last+1))∧w'=w:=by
 obtain⟨m,a,b,n,c,d,f,i,j⟩:=h.cells;clear j f i b c d h;generalize s.last=t at *;go_enter func158,ntmps158;go_wp2;go_ret;exact⟨rfl,rfl⟩
structure Made (S:Nat->Prop)(tO:Nat)(w:X)(g:Nat)(r:Sp.St×Int×Nat)(e:Ending)(w':X):Prop where
 ret:e=Y (.tuple #[I J r.2.1,I J (r.2.2:Int)])
 at_:oh w' (gM S w) tO 101 5 g r.1
 turns:Turns S w w'
theorem Made.none_ {w w':X}{S:Nat->Prop}{a g:Nat}{s:Sp.St}{c:Nat}(h:oh w S a 101 5 g s)(b:Below w.heap.size w w'){r:Sp.St×Int×Nat}(d:r=(s,0,c)):Made S a w g r (Y (.tuple #[I J 0,I J (c:Int)])) w':=by
 subst d;exact⟨rfl,(h.stay b).mono (fun k _ e=>A e),Turns.of_below b⟩
theorem L8 (s:Sp.St)(S:Nat->Prop)(g:Nat)(c:Int)(m:av)(w:X)(h:iU w S g s)(ok:Sp.Ok s)(hl:s.last<=1000000)(hm:m.size<=1000000):
 Calls prog 161 #[Q (M ⟨g,0,U⟩),I J c,V m] w (Made S 104 w g (Sp.create s c m)):=by
 have hN:=ok.few;have hl0:=ok.Dm;obtain⟨ao,cap,z,v,f0,f1,hg,hS,hU⟩:=h.cells;have hcap:=hU.cap_;by_cases h1:c < -1
 . have B:Hid (Made S 104 w g (Sp.create s c m) (Y (.tuple #[I J 0,I J (1:Nat)])) w):=Made.none_ h (fI _ _) (by unfold Sp.create;rw[if_pos h1]);clear h ok hU hg z v;go_enter func161,ntmps161;go_wp2;go_ret2;exact B.o
 . have n1:decide (c < -1)=F:=by rw[bP];exact h1
   by_cases h2:2000<c
   . have B:Hid (Made S 104 w g (Sp.create s c m) (Y (.tuple #[I J 0,I J (4:Nat)])) w):=Made.none_ h (fI _ _) (by unfold Sp.create;rw[if_neg h1,if_pos (A h2)]);have n2:decide (c > 2000)=true:=by rw[bQ];exact h2
     clear h ok hU hg z v;go_enter func161,ntmps161;go_wp2;go_ret2;exact B.o
   . have n2:decide (c > 2000)=F:=by rw[bP];exact h2
     by_cases h3:100<m.size
     . have B:Hid (Made S 104 w g (Sp.create s c m) (Y (.tuple #[I J 0,I J (4:Nat)])) w):=Made.none_ h (fI _ _) (by unfold Sp.create;rw[if_neg h1,if_pos (R h3)]);have n3:decide ((m.size:Int) > 100)=true:=by rw[bQ];omega
       clear h ok hU hg z v;go_enter func161,ntmps161;go_wp2;go_ret2;exact B.o
     . have n3:decide ((m.size:Int) > 100)=F:=by rw[bP];omega
       have e2:¬(2000<c∨100<m.size):=by omega
       have HV:=H9 (kT m w (by unfold maxLen;omega));cases hv:Ch.iw m.data.toList with
       | false =>
         rw[hv] at HV;have B:Hid (Made S 104 w g (Sp.create s c m) (Y (.tuple #[I J 0,I J (3:Nat)])) w):=Made.none_ h (fI _ _) (by unfold Sp.create;rw[if_neg h1,if_neg e2,if_pos (A hv)]);clear h ok hU hg z v hv;go_enter func161,ntmps161;go_wp2_with (go_at_call 192;refine HV.o.mono ?_;rintro e C ⟨rfl,rfl⟩)
         go_ret2;exact B.o
       | true =>
         rw[hv] at HV;have tq:=H9 (tX m w (by omega));have L:=S9 ⟨(Lib.trimS m.data.toList Ch.ws).toArray⟩ m;obtain⟨T,hT⟩:∃T:av,T=⟨(Lib.trimS m.data.toList Ch.ws).toArray⟩:=⟨_,rfl⟩;have N:T.data.toList=Lib.trimS m.data.toList Ch.ws:=by rw[hT]
         rw[<-hT] at tq L;rw[N] at L;by_cases h4:Lib.trimS m.data.toList Ch.ws=m.data.toList
         . rw[aH h4] at L;have e3:¬(Ch.iw m.data.toList=F∨Lib.trimS m.data.toList Ch.ws≠m.data.toList):=by rw[hv];simpa using h4
           by_cases h5:12<=s.l.length
           . have B:Hid (∀W,Below w.heap.size w W->W.cell? ⟨g,0,U⟩=M (Z ao s.l.length cap)∧Made S 104 w g (Sp.create s c m) (Y (.tuple #[I J 0,I J (8:Nat)])) W):=fun W H=>⟨by rw[H.cell (p:=⟨g,0,U⟩) h.lt];exact z,Made.none_ h H (by unfold Sp.create;rw[if_neg h1,if_neg e2,if_neg e3,if_pos h5])⟩;have n5:decide ((s.l.length:Int)≥12)=true:=by rw[bQ];omega
             clear h ok hU hg z v hT N h4 hv e3;go_enter func161,ntmps161;go_wp2_with (first | (go_at_call 192;refine HV.o.mono ?_;rintro e C ⟨rfl,rfl⟩) | (go_at_call 193;refine tq.o.mono ?_;rintro e C ⟨rfl,D⟩;obtain⟨d0,hd⟩:=B.o C D;have HD:=H9 hd;clear hd D))
             go_ret2;exact HD.o
           . have n5:decide ((s.l.length:Int)≥12)=F:=by rw[bP];omega
             have UR:Hid (Sp.create s c m=(⟨s.l++[⟨s.last+1,c,m,[],0⟩],s.last+1⟩,s.last+1,0)):=by unfold Sp.create;rw[if_neg h1,if_neg e2,if_neg e3,if_neg h5];exact rfl
             have HA:=H9 h;have OI:Hid (∀W,Below w.heap.size w W->Calls prog 158 #[Q (M ⟨g,0,U⟩)] W fun e w'=>e=Y (I J (s.last+1))∧w'=W):=fun W H=>Iu s S g W (h.stay H) hl0 hl;have Al:=H9 (fun W=>lK m W hm);have HC:Hid (∀W,Below w.heap.size w W->W.cell? ⟨g,0,U⟩=M (Z ao s.l.length cap)∧W.cell? ⟨g,1,U⟩=M (I J s.last)∧W.frozen? ⟨g,1,U⟩=F):=fun W H=>⟨by rw[H.cell (p:=⟨g,0,U⟩) h.lt];exact z,by rw[H.cell (p:=⟨g,1,U⟩) h.lt];exact v,by rw[H.frozen (p:=⟨g,1,U⟩) h.lt];exact f1⟩;clear h ok hU hg z v f0 f1 hS hT N h4 hv e3;go_enter func161,ntmps161;go_wp2_with (first | (go_at_call 192;refine HV.o.mono ?_;rintro e C ⟨rfl,hw⟩;rw[hw];clear hw) | (go_at_call 193;refine tq.o.mono ?_;rintro e C ⟨rfl,D⟩;obtain⟨d0,d1,d2⟩:=HC.o C D;have HB:=H9 D;clear D) | (go_at_call 158;refine(OI.o _ HB.o).mono ?_;rintro e wn ⟨rfl,hw⟩;rw[hw];clear hw))
             obtain⟨O,ht2⟩:=(HA.o.stay HB.o).Kl (s.last+1);have jU:Turns S w (C.setCell ⟨g,1,U⟩ (I J (s.last+1))):=(Turns.of_below HB.o).trans (ht2.mono (fun k e=>by subst e;exact HA.o.cells.choose_spec.choose_spec.2.2.2.2.2.1)) (fun _ e _=>e);generalize hw3:C.setCell ⟨g,1,U⟩ (I J (s.last+1))=b at *;clear hw3 ht2 d0 d1 d2 HC OI HB tq HV;obtain⟨jP,gW,z,v,f0,f1,hg3,M6,hU3⟩:=O.cells;have Jg:=H9 O;have hlt:=O.lt;have HT3:=H9 jU;have sF:=H9 hg3;have HU3:=H9 hU3
             clear O jU hg3 hU3 HA;simp only at z v;have aex:Hid (Calls prog 113 #[V m] (b.alloc (K #[I J 0,I J 0,V ⟨#[]⟩,Z U 0 0,I J 0] 101)).drew fun e d=>e=Y (V m)∧Below b.heap.size b d∧d.heap[b.heap.size]? = M (K #[I J 0,I J 0,V ⟨#[]⟩,Z U 0 0,I J 0] 101 (0,0))):=(Al.o _).mono fun e d ⟨he,f⟩=>by
              refine⟨he,(((fI _ b).alloc (aL _) _).trans (gP _ _)).trans (f.mono (by show b.heap.size<=(b.alloc _).heap.size;rw[fV];omega)),?_⟩;rw[f.block b.heap.size (by show b.heap.size<(b.alloc _).heap.size;rw[fV];omega)];exact fH b _
             have aey:Hid (Calls prog 113 #[V m] b.drew fun e d=>e=Y (V m)∧Below b.heap.size b d):=(Al.o _).mono fun e d ⟨he,f⟩=>⟨he,(gP _ _).trans f⟩;have am0:¬b.heap.size=g:=by omega
             have akt:¬g=b.heap.size:=by omega
             clear Al;have HMt:Hid (∀d,Below b.heap.size b d->d.heap[b.heap.size]? = M (K #[I J 0,I J 0,V ⟨#[]⟩,Z U 0 0,I J 0] 101 (0,0))->Below b.heap.size b (((((d.setCell ⟨b.heap.size,0,U⟩ (I J (s.last+1))).setCell ⟨b.heap.size,1,U⟩ (I J c)).setCell ⟨b.heap.size,2,U⟩ (V m)).setCell ⟨b.heap.size,3,U⟩ (Z U 0 0)).setCell ⟨b.heap.size,4,U⟩ (I J 0))∧(((((d.setCell ⟨b.heap.size,0,U⟩ (I J (s.last+1))).setCell ⟨b.heap.size,1,U⟩ (I J c)).setCell ⟨b.heap.size,2,U⟩ (V m)).setCell ⟨b.heap.size,3,U⟩ (Z U 0 0)).setCell ⟨b.heap.size,4,U⟩ (I J 0)).heap[b.heap.size]? = M (K #[I J (s.last+1),I J c,V m,Z U 0 0,I J 0] 101 (0,0))):=fun d D hr=>by
              refine⟨((((D.setCell (aL _) _).setCell (aL _) _).setCell (aL _) _).setCell (aL _) _).setCell (aL _) _,?_⟩;exact fM _ _ 4 _ _ _ (fM _ _ 3 _ _ _ (fM _ _ 2 _ _ _ (fM _ _ 1 _ _ _ (fM _ _ 0 _ _ _ hr))))
             go_cut [8] (fun t wd=>∃nb,t=Q (M ⟨nb,0,U⟩)∧b.heap.size<=nb∧Below b.heap.size b wd∧wd.heap[nb]? = M (K #[I J (s.last+1),I J c,V m,Z U 0 0,I J 0] 101 (0,0)))
             case first =>
              go_region_held3 (fun w'=>w'.cell? ⟨g,1,U⟩=M (I J (s.last+1))) (go_keep) (first
               | (go_at_call 113;refine aex.o.mono ?_;rintro e d ⟨rfl,i,x⟩;have c1':d.cell? ⟨g,1,U⟩=M (I J (s.last+1)):=(i.cell (p:=⟨g,1,U⟩) hlt).trans v;have z0:=fJ d _ 0 _ _ _ x;have z1:=fJ d _ 1 _ _ _ x;have z2:=fJ d _ 2 _ _ _ x;have z3:=fJ d _ 3 _ _ _ x;have z4:=fJ d _ 4 _ _ _ x;have y0:=fK d _ 0 _ _ x;have y1:=fK d _ 1 _ _ x;have y2:=fK d _ 2 _ _ x;have y3:=fK d _ 3 _ _ x;have y4:=fK d _ 4 _ _ x;simp at z0 z1 z2 z3 z4;have jJ:=H9 i;have HR4:=H9 x;clear i x)
               | (go_at_call 113;refine aey.o.mono ?_;rintro e d ⟨rfl,i⟩;have c1':d.cell? ⟨g,1,U⟩=M (I J (s.last+1)):=(i.cell (p:=⟨g,1,U⟩) hlt).trans v;have am1:¬d.heap.size=g:=(by have:=i.size;omega);have aku:¬g=d.heap.size:=(by have:=i.size;omega);have jJ:=H9 i;clear i))
              all_goals go_wp2
              all_goals go_meet
              . exact⟨_,rfl,jJ.o.size,jJ.o.alloc jJ.o.size _,fH d _⟩
              . exact⟨_,rfl,aL _,HMt.o d jJ.o HR4.o⟩
             case rest =>
              obtain⟨nb,rfl,hnb,f,q⟩:=hcut;have hU4:=HU3.o.stay f;obtain⟨xs,hO,hP⟩:=hU4.push (K #[I J (s.last+1),I J c,V m,Z U 0 0,I J 0] 101);have P:wc.heap[g]? = M _:=(f.block g hlt).trans sF.o;have jo:=(fI _ wc).alloc (aL _) (K #[I J (s.last+1),I J c,V m,Z U 0 0,I J 0] 101);have c0a:(wc.alloc (K #[I J (s.last+1),I J c,V m,Z U 0 0,I J 0] 101)).cell? ⟨g,0,U⟩=M (Z jP s.l.length gW):=(jo.cell (p:=⟨g,0,U⟩) (by show g<wc.heap.size;have:=f.size;omega)).trans (fJ wc g 0 _ _ _ P);have c0b:wc.cell? ⟨g,0,U⟩=M (Z jP s.l.length gW):=fJ wc g 0 _ _ _ P;have z0:wc.cell? ⟨nb,0,U⟩=M (I J (s.last+1)):=fJ wc nb 0 _ _ _ q;have z1:wc.cell? ⟨nb,1,U⟩=M (I J c):=fJ wc nb 1 _ _ _ q;have z2:wc.cell? ⟨nb,2,U⟩=M (V m):=fJ wc nb 2 _ _ _ q;have z3:wc.cell? ⟨nb,3,U⟩=M (Z U 0 0):=fJ wc nb 3 _ _ _ q;have z4:wc.cell? ⟨nb,4,U⟩=M (I J 0):=fJ wc nb 4 _ _ _ q;have ab3:=f.size;have hbl:∀k,gK jP=M k->(S k∧k≠g)∧k<b.heap.size:=fun k e=>by
               obtain⟨us,_,h2,h3,_⟩:=HU3.o;cases jP with
               | none=>cases e
               | some a=>injection e with e;subst e;exact⟨h3 a rfl,(h2.block a rfl).2⟩
              have am2:nb<wc.heap.size:=(aK.1 q).1;have HK:Hid (∀y,(wc.alloc (K #[I J (s.last+1),I J c,V m,Z U 0 0,I J 0] 101)).drew.grownBy y (Value.slice jP s.l.length gW).ownBlock->y.heap[g]? = M (K #[Z jP s.l.length gW,I J (s.last+1)] 104 (0,0))∧y.heap[nb]? = M (K #[I J (s.last+1),I J c,V m,Z U 0 0,I J 0] 101 (0,0))):=fun y hG=>by
               rw[gN] at hG;refine⟨?_,?_⟩
               . rw[hG.block g (by show g<(wc.alloc _).heap.size;rw[fV];omega) (fun e=>(hbl g e.symm).1.2 rfl)];exact(jo.block g (by omega)).trans P
               . rw[hG.block nb (by show nb<(wc.alloc _).heap.size;rw[fV];omega) (fun e=>by have:=(hbl nb e.symm).2;omega)];exact(jo.block nb (by omega)).trans q
              have HO:=H9 (gU.stay hO (gP _ _));have UU:Hid (∀j u,(vE ⟨s.last+1,c,m,[],0⟩ ⟨U,0⟩)[j]? = M u->(wc.alloc (K #[I J (s.last+1),I J c,V m,Z U 0 0,I J 0] 101)).drew.cell? (Addr.add ⟨wc.heap.size,0,U⟩ j)=M u):=fun j u hu=>by
               rw[gH,aZ];show(wc.alloc _).cell? _=_;rw[World.cell?_alloc_at _ _ _ _ rfl,dG];exact hu
              have HP:=H9 hP;have jJ:=H9 f;have HBL:=H9 hbl;obtain⟨i0,hi0,hz0,hz1,hz2⟩:=info_parts JC;have Hi:=H9 hi0;have kJ:=H9 hz0;have kG:=H9 hz1;have kK:=H9 hz2
              have HN:Hid (s.l.length+1<=maxLen∧(s.l.length+1)*64<=140737488355328):=⟨by unfold maxLen;omega,by omega⟩;have UJ:¬nb=g:=by omega
              have am3:¬g=nb:=by omega
              clear hi0 hz0 hz1 hz2 hO hP hbl jo P hU4 f q HMt aex aey;go_wp2;go_region_law
               ((refine step_append_lies _ (by rfl) _ _ _ (by rfl) 0 101 i0 (.agg #[I J 0,I J 0,V ⟨#[]⟩,Z U 0 0,I J 0]) 5 64 underlying40 Hi.o kJ.o kG.o kK.o (by rfl) (by decide) (Z jP s.l.length gW) s.l.length _ (by rfl) HO.o ⟨wc.heap.size,0,U⟩ 1 1 (vE ⟨s.last+1,c,m,[],0⟩ ⟨U,0⟩) (by rfl) (by rfl) UU.o (Qr _ _) (by decide) HN.o.1 HN.o.2 (ay _) (wc.heap.size+1) (by simp) ?_;intro g5 cap5 y G r wQ ah0;obtain⟨r5,r6⟩:=HK.o _ r;have q0:y.cell? ⟨g,0,U⟩=M (Z jP s.l.length gW):=fJ y g 0 _ _ _ r5;have q1:y.frozen? ⟨g,0,U⟩=F:=fK y g 0 _ _ r5;have q2:y.cell? ⟨nb,0,U⟩=M (I J (s.last+1)):=fJ y nb 0 _ _ _ r6;have SC:=H9 r5;have HG5:=H9 r;have tF:=H9 G;have HA5:=H9 wQ;clear r G wQ r5 r6 ah0))
              all_goals
               go_wp2;go_ret2;have hG:=HG5.o;have hat:=HA5.o;rw[gN] at hG hat;obtain⟨r1,r2⟩:=HP.o (M ⟨g5,0,U⟩) cap5 y ⟨s.last+1,c,m,[],0⟩ ⟨U,0⟩ (fun _=>False) (gY.nil _ _ _) (fun _ _ e=>e) tF.o (jV (rz _ _) hG) (by
                rcases hat with e | e
                . exact A e.symm
                . exact R (by rw[fV,e];rfl))
               have am4:=HT3.o.size;obtain⟨hL,hTL⟩:=oh.lay (S:=gM S w) SC.o (A M6) (n:=s.l.length+1) (r1.mono (fun k _ e=>by
                rcases e with e | e | e
                . exact⟨A e.1,e.2⟩
                . exact e.elim
                . exact⟨R (by omega),by omega⟩)) (by simp)
               refine⟨by rw[UR.o];rfl,by rw[UR.o];exact hL,?_⟩;exact((HT3.o.trans (Turns.of_below jJ.o) (fun _ e _=>e)).trans (r2.mono (fun k e=>e.1)) (fun _ e _=>e)).trans (hTL.mono (fun k e=>by subst e;exact M6)) (fun _ e _=>e)
         . rw[aI h4] at L;have B:Hid (∀W,Below w.heap.size w W->Made S 104 w g (Sp.create s c m) (Y (.tuple #[I J 0,I J (3:Nat)])) W):=fun W H=>Made.none_ h H (by unfold Sp.create;rw[if_neg h1,if_neg e2,if_pos (R h4)]);clear h ok hU hg z v hT N h4 hv;go_enter func161,ntmps161;go_wp2_with (first | (go_at_call 192;refine HV.o.mono ?_;rintro e C ⟨rfl,rfl⟩) | (go_at_call 193;refine tq.o.mono ?_;rintro e C ⟨rfl,D⟩;have HD:=H9 (B.o C D);clear D))
           go_ret2;exact HD.o
theorem Ta (s:Sp.St)(S:Nat->Prop)(g b:Nat)(a:Int)(w:X)(h:iU w S g s)(ok:Sp.Ok s)(i:w.cell? ⟨b,0,U⟩=M (I J a)):
 Calls prog 174 #[Q (M ⟨g,0,U⟩),Q (M ⟨b,0,U⟩)] w (Did S 104 w g (Sp.drop s a)):=by
 have d:=H9 (SY s S g a w h ok);generalize Sp.drop s a=r at *;clear ok h;go_enter func174,ntmps174;go_wp2_with fail
 refine d.o.mono ?_;intro e j c;have f:=H9 c;obtain⟨rfl,_,_⟩:=c;go_wp2;go_ret;exact f.o
theorem Tc (s:Sp.St)(S:Nat->Prop)(g c d:Nat)(a:Int)(b:Int)(w:X)(h:iU w S g s)(ok:Sp.Ok s)(k:w.cell? ⟨c,0,U⟩=M (I J a))(l:w.cell? ⟨d,0,U⟩=M (I J b)):
 Calls prog 172 #[Q (M ⟨g,0,U⟩),Q (M ⟨c,0,U⟩),Q (M ⟨d,0,U⟩)] w (Did S 104 w g (Sp.declare s a b)):=by
 have i:=H9 (JB s S g a b w h ok);generalize Sp.declare s a b=r at *;clear ok h;go_enter func172,ntmps172;go_wp2_with fail
 refine i.o.mono ?_;intro e m f;have j:=H9 f;obtain⟨rfl,_,_⟩:=f;go_wp2;go_ret;exact j.o
theorem Te (s:Sp.St)(S:Nat->Prop)(g f i j:Nat)(b:Int)(a:Int)(bo:aj)(c d:Nat)(l:au)(w:X)(h:iU w S g s)(ok:Sp.Ok s)(u:w.cell? ⟨f,0,U⟩=M (I J b))(v:w.cell? ⟨i,0,U⟩=M (I J a))(x:w.cell? ⟨j,0,U⟩=M (Z bo c d))(k:iG w bo d l)(m:l.length=c)(n:c<=1000000):
 Calls prog 170 #[Q (M ⟨g,0,U⟩),Q (M ⟨f,0,U⟩),Q (M ⟨i,0,U⟩),Q (M ⟨j,0,U⟩)] w (Did S 104 w g (Sp.append s b a l)):=by
 have q:=H9 (LZ s S g b a bo c d l w h ok k m n);generalize Sp.append s b a l=r at *;clear n m k ok h;go_enter func170,ntmps170;go_wp2_with fail
 refine q.o.mono ?_;intro e y p;have t:=H9 p;obtain⟨rfl,_,_⟩:=p;go_wp2;go_ret;exact t.o
theorem Tf (s:Sp.St)(S:Nat->Prop)(g c d:Nat)(a:Int)(m:av)(w:X)(h:iU w S g s)(ok:Sp.Ok s)(t:w.cell? ⟨c,0,U⟩=M (I J a))(u:w.cell? ⟨d,0,U⟩=M (V m))(f:s.last<=1000000)(i:m.size<=1000000):
 Calls prog 160 #[Q (M ⟨g,0,U⟩),Q (M ⟨c,0,U⟩),Q (M ⟨d,0,U⟩)] w (Did S 104 w g (Sr.made s a m)):=by
 have j:=H9 (L8 s S g a m w h ok f i);have k:Hid (Sr.made s a m=((Sp.create s a m).1,(Sp.create s a m).2.2)):=rfl;generalize Sp.create s a m=q at *;obtain⟨v,x,l⟩:=q;generalize Sr.made s a m=r at *;clear i f ok h;go_enter func160,ntmps160;go_wp2_with fail
 refine j.o.mono ?_;intro e n b;have p:Hid (Did S 104 w g r (Y (I J (l:Int))) n):=by
  rw[k.o];exact⟨rfl,b.at_,b.turns⟩
 obtain⟨rfl,_,_⟩:=b;go_wp2;go_ret;exact p.o
abbrev aez (B:Nat)(w:X)(g:Nat)(s:Sp.St):Prop:=iU w (fun k=>B<=k) g s
theorem Did.ZE {B:Nat}{w w':X}{g:Nat}{r:Sp.St×Nat}{e:Ending}(h:Did (fun k=>B<=k) 104 w g r e w')(a:B<=w.heap.size):e=Y (I J (r.2:Int))∧aez B w' g r.1∧Below B w w':=by
 refine⟨h.ret,h.at_.mono (fun k _ e=>?_),h.turns.below (fun k e=>e) a⟩;rcases e with e | e
 . exact e
 . omega
theorem EL (i z t:Int)(m:av)(bo:aj)(n gJ:Nat)(bs:au)(w:X)(L:iG w bo gJ bs)(hn:bs.length=n)(hN:n<=1000000)(hm:m.size<=1000000):
 Calls prog 72 #[.agg #[I J i,I J z,V m,Z bo n gJ,I J t]] w fun e w'=>∃ao cap,e=Y (.agg #[I J i,I J z,V m,Z ao n cap,I J t])∧gY w' (fun k=>w.heap.size<=k) 5 ao cap bs∧Below w.heap.size w w':=by
 have N:=H9 (fun W=>lK m W hm);have l:Hid (∀W,Below w.heap.size w W->Calls prog 114 #[Z bo n gJ] W fun e w'=>∃ao cap,e=Y (Z ao n cap)∧gY w' (fun k=>W.heap.size<=k) 5 ao cap bs∧Below W.heap.size W w'):=fun W hW=>EK bs bo gJ n W (L.stay hW) hn (by omega);clear L;go_enter func72,ntmps72;go_upto_region 1 with fail
 have u:lD w (K #[I J i,I J z,V m,Z bo n gJ,I J t] 101 (0,0)) (K #[I J 0,I J 0,V ⟨#[]⟩,Z U 0 0,I J 0] 101 (0,0)) _:=lD.made w #[I J i,I J z,V m,Z bo n gJ,I J t] #[I J 0,I J 0,V ⟨#[]⟩,Z U 0 0,I J 0] 101 101;have s:Hid (∀W,lD w (K #[I J i,I J z,V m,Z bo n gJ,I J t] 101 (0,0)) (K #[I J 0,I J 0,V ⟨#[]⟩,Z U 0 0,I J 0] 101 (0,0)) W->W.cell? ⟨w.heap.size,2,U⟩=M (V m)∧W.cell? ⟨w.heap.size,3,U⟩=M (Z bo n gJ)∧W.frozen? ⟨w.heap.size,2,U⟩=F∧W.frozen? ⟨w.heap.size,3,U⟩=F):=fun W h=>⟨h.cell 2,h.cell 3,h.fz 2,h.fz 3⟩;obtain⟨c2,c3,f2,f3⟩:=s.o _ u;have c:w.heap.size+2<=((w.alloc (K #[I J i,I J z,V m,Z bo n gJ,I J t] 101)).alloc (K #[I J 0,I J 0,V ⟨#[]⟩,Z U 0 0,I J 0] 101)).heap.size:=by simp
 generalize ((w.alloc (K #[I J i,I J z,V m,Z bo n gJ,I J t] 101)).alloc (K #[I J 0,I J 0,V ⟨#[]⟩,Z U 0 0,I J 0] 101))=w1 at *;have O:=H9 u;have P:=H9 c;clear u c;go_cut [3] (fun _ S=>∃ao cap,lD w (K #[I J i,I J z,V m,Z ao n cap,I J t] 101 (0,0)) (K #[I J 0,I J 0,V ⟨#[]⟩,Z U 0 0,I J 0] 101 (0,0)) S∧gY S (fun k=>w.heap.size+2<=k) 5 ao cap bs)
 case first =>
  go_region_with (first
   | (go_at_call 113;refine(N.o _).mono ?_;rintro e w2 ⟨rfl,d⟩;have f:=O.o.stay ((gP _ _).trans d);obtain⟨T,d3,g2,g3⟩:=s.o _ f;have WU:=H9 f;have x:Hid (w1.heap.size<=w2.heap.size):=d.size;clear d f)
   | (go_at_call 114;refine(l.o _ WU.o.below).mono ?_;rintro e y ⟨ao,cap,rfl,p,q⟩;have g:=WU.o.stay q;obtain⟨e2,e3,k2,k3⟩:=s.o _ g;have B:=H9 g;have C:=H9 p;clear q g p))
  all_goals
   go_wp2;go_meet;have D:=B.o.same 2 (V m) rfl;obtain⟨G,Tg⟩:=D.ah1 3 (Z ao n cap);have H:Turns (fun k=>w.heap.size<=k∧k<w.heap.size+2) y (y.setCell ⟨w.heap.size,2,U⟩ (V m)):=Turns.setCell _ y _ _ ⟨aL _,by show w.heap.size<_;omega⟩;have c:=P.o;have hs2:=x.o;refine⟨ao,cap,G,((C.o.to (S':=fun k=>w.heap.size+2<=k) (fun k e _ _=>by omega)).turns H (fun k e h=>by omega)).turns Tg (fun k e h=>by omega)⟩
 case rest =>
  obtain⟨ao,cap,a,p⟩:=hcut;have HT:=H9 a;have C:=H9 p;have d0:=a.cell 0;have d1:=a.cell 1;have T:=a.cell 2;have d3:=a.cell 3;have d4:=a.cell 4
  have g0:=a.fz2 0;have g1:=a.fz2 1;have g2:=a.fz2 2;have g3:=a.fz2 3;have g4:=a.fz2 4
  have e0:=a.yA 0;have e1:=a.yA 1;have e2:=a.yA 2;have e3:=a.yA 3;have e4:=a.yA 4
  simp at d0 d1 T d3 d4 e0 e1 e2 e3 e4;clear a p c2 c3 f2 f3 O P s N l;go_wp2;obtain⟨a1,t1⟩:=HT.o.WT 0 (I J i);obtain⟨a2,t2⟩:=a1.WT 1 (I J z);obtain⟨a3,t3⟩:=a2.WT 2 (V m);obtain⟨a4,t4⟩:=a3.WT 3 (Z ao n cap);obtain⟨j,t5⟩:=a4.WT 4 (I J t);have b:∀k,w.heap.size+2<=k->¬(w.heap.size<=k∧k<w.heap.size+2):=fun k e h=>by omega
  have vH:=((((C.o.turns t1 b).turns t2 b).turns t3 b).turns t4 b).turns t5 b;generalize (((((wc.setCell ⟨w.heap.size+1,0,U⟩ (Value.int J i)).setCell ⟨w.heap.size+1,1,U⟩ (Value.int J z)).setCell ⟨w.heap.size+1,2,U⟩ (Value.string m)).setCell ⟨w.heap.size+1,3,U⟩ (Value.slice ao n cap)).setCell ⟨w.heap.size+1,4,U⟩ (Value.int J t))=r at j vH ⊢;have r0:r.cell? ⟨w.heap.size+1,0,U⟩=M (I J i):=j.yA 0;have r1:r.cell? ⟨w.heap.size+1,1,U⟩=M (I J z):=j.yA 1;have r2:r.cell? ⟨w.heap.size+1,2,U⟩=M (V m):=j.yA 2;have r3:r.cell? ⟨w.heap.size+1,3,U⟩=M (Z ao n cap):=j.yA 3;have r4:r.cell? ⟨w.heap.size+1,4,U⟩=M (I J t):=j.yA 4;refine gq (v:=.agg #[I J i,I J z,V m,Z ao n cap,I J t]) (by simp[results,results72,go_sem,r0,r1,r2,r3,r4]) rfl ⟨ao,cap,rfl,vH.mono (fun k _ e=>by omega),j.below⟩
def EM (l:List Sp.Up):Prop:=l.length<=1000∧∀u∈l,u.note.size<=1000000∧u.bytes.length<=1000000
theorem Sp.Ok.small {s:Sp.St}(ok:Sp.Ok s):EM s.l:=⟨by have:=ok.few;omega,fun u a=>⟨by have:=(ok.all u a).note;omega,by have:=(ok.all u a).long;omega⟩⟩
theorem Aa (l:List Sp.Up)(ao:aj)(cap n:Nat)(w:X)(hl:pV w ao cap l)(hcap:n<=cap)(hn:l.length=n)(m:EM l):
 Calls prog 40 #[Z ao n cap] w fun e w'=>∃gV,e=Y (Z gV n n)∧qE w' (fun k=>w.heap.size<=k) 101 5 gV n l∧Below w.heap.size w w':=by
 subst hn;have hN:=m.1;obtain⟨i0,r,s,x,y⟩:=info_parts JC;obtain⟨w1,hmk,S,c⟩:=run_make_full (P:=prog) w 0 40 101 i0 (.agg #[I J 0,I J 0,V ⟨#[]⟩,Z U 0 0,I J 0]) 5 underlying40 r s x J J l.length (by rw[y];omega) (by unfold maxLen;omega) (ay _);rw[show(Value.agg #[I J 0,I J 0,V ⟨#[]⟩,Z U 0 0,I J 0]).cells=#[I J 0,I J 0,V ⟨#[]⟩,Z U 0 0,I J 0] from rfl,Ti] at S;have z:Below w.heap.size w w1:=⟨c.os,c.tape,c.output,c.size,fun k hk=>c.block k hk (by simp)⟩;have Yv:qE w1 (fun k=>w.heap.size<=k) 101 5 (M ⟨w.heap.size,0,U⟩) l.length (List.replicate l.length QJ):=qE.zeros S (aL _);have H:=H9 hl;have HZ:=H9 m;have T:=H9 z;have W:=H9 Yv;clear hl m r s x y S c z Yv;go_enter func40,ntmps40;go_wp2;go_loopw [11] (fun t wr=>∃k:Nat,k<=l.length∧t=I J k∧Below w.heap.size w wr∧qE wr (fun k=>w.heap.size<=k) 101 5 (M ⟨w.heap.size,0,U⟩) l.length (l.take k++List.replicate (l.length-k) QJ)) (fun t _=>l.length-(intOf t).toNat)
 case atStart=>exact⟨0,ay _,rfl,T.o,W.o⟩
 case round =>
  obtain⟨k,hk,rfl,hB,hU⟩:=hrel;have N:=H9 hB;have HU:=H9 hU;clear hB hU;by_cases g:k<l.length
  . obtain⟨bb,oo,q,rfl,hc0,hc1,hc2,hc3,hc4,B⟩:=(H.o.stay N.o).at_ k g;have hlt':(k:Int)<l.length:=by omega
    have m:=HZ.o.2 l[k] (aB g);have HT:Hid ((l.take k++List.replicate (l.length-k) QJ).set k l[k]=l.take (k+1)++List.replicate (l.length-(k+1)) QJ):=Tj l k g;have hL:k<(l.take k++List.replicate (l.length-k) QJ).length:=by rw[aV,bX,List.length_replicate];omega
    have jo:=(fI _ wr).alloc (aL _) (K #[I J l[k].id,I J l[k].size,V l[k].note,Z q.bo l[k].bytes.length q.gJ,I J l[k].sent] 101);have HC:=H9 (EL l[k].id l[k].size l[k].sent l[k].note q.bo l[k].bytes.length q.gJ l[k].bytes (wr.alloc (K #[I J l[k].id,I J l[k].size,V l[k].note,Z q.bo l[k].bytes.length q.gJ,I J l[k].sent] 101)) (B.stay jo) rfl m.2 m.1);have ah4:=N.o.size;have HX:Hid (∀d gV a,gY d (fun j=>(wr.alloc (K #[I J l[k].id,I J l[k].size,V l[k].note,Z q.bo l[k].bytes.length q.gJ,I J l[k].sent] 101)).heap.size<=j) 5 gV a l[k].bytes->Below (wr.alloc (K #[I J l[k].id,I J l[k].size,V l[k].note,Z q.bo l[k].bytes.length q.gJ,I J l[k].sent] 101)).heap.size (wr.alloc (K #[I J l[k].id,I J l[k].size,V l[k].note,Z q.bo l[k].bytes.length q.gJ,I J l[k].sent] 101)) d ->
     (∀j,j<5->(∃v,d.cell? ⟨w.heap.size,k*5+j,U⟩=M v)∧d.frozen? ⟨w.heap.size,k*5+j,U⟩=F) ∧
     Below w.heap.size w (((((d.setCell ⟨w.heap.size,k*5,U⟩ (I J l[k].id)).setCell ⟨w.heap.size,k*5+1,U⟩ (I J l[k].size)).setCell ⟨w.heap.size,k*5+2,U⟩ (V l[k].note)).setCell ⟨w.heap.size,k*5+3,U⟩ (Z gV l[k].bytes.length a)).setCell ⟨w.heap.size,k*5+4,U⟩ (I J l[k].sent)) ∧
     qE (((((d.setCell ⟨w.heap.size,k*5,U⟩ (I J l[k].id)).setCell ⟨w.heap.size,k*5+1,U⟩ (I J l[k].size)).setCell ⟨w.heap.size,k*5+2,U⟩ (V l[k].note)).setCell ⟨w.heap.size,k*5+3,U⟩ (Z gV l[k].bytes.length a)).setCell ⟨w.heap.size,k*5+4,U⟩ (I J l[k].sent)) (fun k=>w.heap.size<=k) 101 5 (M ⟨w.heap.size,0,U⟩) l.length (l.take (k+1)++List.replicate (l.length-(k+1)) QJ)):=fun d gV a O f=>by
     have i:Below wr.heap.size wr d:=then_ jo f;have C:=(HU.o.mono (S':=fun j=>w.heap.size<=j∧j<wr.heap.size) (fun j hj e=>⟨e,hj⟩)).stay i;obtain⟨g2,D,_,_,b⟩:=C.at_.row k hL;injection D with D;injection D with D;subst D;obtain⟨hU5,xP⟩:=C.ah2 (u:=l[k]) hL O (fun j e h=>by rw[fV] at e;omega) rfl;refine⟨b,(N.o.trans (i.mono ah4)).trans (xP.below (fun j e=>by subst e;exact aL _) (by have:=i.size;omega)),?_⟩;rw[<-HT.o];refine hU5.mono (fun j _ e=>?_);rcases e with e | e
     . exact e.1
     . rw[fV] at e;omega
    clear B jo HT hL HU;generalize l[k]=p at *;go_wp2_with fail
    refine HC.o.mono ?_;rintro e d ⟨gV,a,rfl,O,f⟩;obtain⟨b,G,L⟩:=HX.o d gV a O f;obtain⟨⟨v0,d0⟩,f0⟩:=b 0 (by decide);obtain⟨⟨v1,d1⟩,f1⟩:=b 1 (by decide);obtain⟨⟨v2,d2⟩,f2⟩:=b 2 (by decide);obtain⟨⟨v3,d3⟩,f3⟩:=b 3 (by decide);obtain⟨⟨v4,d4⟩,f4⟩:=b 4 (by decide);rw[bJ] at d0 f0;have Tk:=H9 G;have WU:=H9 L
    clear b G L O f HX;go_wp2;go_roundw
    case rel=>exact⟨k+1,by omega,by go_num,Tk.o,WU.o⟩
    case measure=>simp[intOf];omega
  . obtain rfl:k=l.length:=by omega
    go_wp2;go_ret;refine⟨M ⟨w.heap.size,0,U⟩,rfl,?_,N.o⟩;have:=HU.o;rw[bO,Nat.sub_self,List.replicate_zero,bV] at this;exact this
theorem Iw (s:Sp.St)(S:Nat->Prop)(g:Nat)(w:X)(h:iU w S g s)(i:EM s.l):
 Calls prog 18 #[Q (M ⟨g,0,U⟩)] w fun e w'=>∃gV,e=Y (Z gV s.l.length s.l.length)∧qE w' (fun k=>w.heap.size<=k) 101 5 gV s.l.length s.l∧Below w.heap.size w w':=by
 obtain⟨m,b,v,n,p,q,r,t,c⟩:=h.cells;have u:=H9 (Aa s.l m b s.l.length w c.zK c.cap_ rfl i);clear h c r t n p q i;generalize s.l=l at *;go_enter func18,ntmps18;go_wp2_with fail
 refine u.o.mono ?_;rintro e x ⟨gV,rfl,j,a⟩;have d:=H9 j;have f:=H9 a
 clear j a;go_wp2;go_ret;exact⟨gV,rfl,d.o,f.o⟩
theorem xQ (s:Sp.St)(S:Nat->Prop)(g:Nat)(w:X)(h:iU w S g s)(r:EM s.l):
 Calls prog 204 #[Q (M ⟨g,0,U⟩)] w fun e w'=>∃t,e=Y (Q (M ⟨t,0,U⟩))∧iU w' (fun k=>w.heap.size<=k) t s∧Below w.heap.size w w':=by
 have i:=h.lt;obtain⟨m,f,y,z,B,C,D,G,q⟩:=h.cells;have H:=H9 (Aa s.l m f s.l.length w.drew (q.zK.stay (gP _ _)) q.cap_ rfl r);clear h q D G B C r;have L:Hid (∀a d,qE a (fun k=>w.drew.heap.size<=k) 101 5 d s.l.length s.l->Below w.drew.heap.size w.drew a->a.cell? ⟨g,0,U⟩=M (Z m s.l.length f)∧a.cell? ⟨g,1,U⟩=M (I J s.last)∧iU (a.alloc (K #[Z d s.l.length s.l.length,I J s.last] 104)) (fun k=>w.heap.size<=k) a.heap.size s∧Below w.heap.size w (a.alloc (K #[Z d s.l.length s.l.length,I J s.last] 104))):=fun a d j b=>by
  have c:Below w.heap.size w a:=(gP _ _).trans b;have u:=(fI _ a).alloc (aL _) (K #[Z d s.l.length s.l.length,I J s.last] 104);exact⟨(c.cell (p:=⟨g,0,U⟩) i).trans y,(c.cell (p:=⟨g,1,U⟩) i).trans z,⟨d,s.l.length,fH a _,c.size,((j.mono (S':=fun k=>w.heap.size<=k∧k<a.heap.size) (fun k N e=>⟨e,N⟩)).stay u).mono (fun k _ e=>⟨e.1,by omega⟩)⟩,then_ c u⟩
 generalize s.l.length=n at *;generalize W:s.last=O at *;go_enter func204,ntmps204;go_wp2_with fail
 go_region_held3 (fun w'=>w'.cell? ⟨g,0,U⟩=M (Z m n f)∧w'.cell? ⟨g,1,U⟩=M (I J O)) (go_keep) (first | (go_at_call 40;refine H.o.mono ?_;rintro e a ⟨d,rfl,j,b⟩;obtain⟨d0,d1,v,x⟩:=L.o a d j b;have P:=H9 v;have T:=H9 x;clear v x j b))
 all_goals
  go_wp2;go_ret;exact⟨_,rfl,P.o,T.o⟩
theorem Tm (s:Sp.St)(S:Nat->Prop)(g:Nat)(j:Int)(w:X)(h:iU w S g s)(ok:Sp.Ok s)(q:Sp.place s.l j=U):
 Calls prog 125 #[Q (M ⟨g,0,U⟩),I J j] w fun e w'=>e=Y (.tuple #[.agg #[I J 0,I J 0,V ⟨#[]⟩,Z U 0 0,I J 0],.bool F])∧Below w.heap.size w w':=by
 have k:=(fI _ w).alloc (aL _) (K #[I J 0,I J 0,V ⟨#[]⟩,Z U 0 0,I J 0] 101);have r:=H9 (tY s S g j _ (h.stay k) (by have:=ok.few;omega));rw[Sp.zo q] at r;have t:=H9 k;clear h ok q k;go_enter func125,ntmps125;go_wp2_with fail
 refine r.o.mono ?_;rintro e a ⟨rfl,m⟩;have f:=then_ t.o m;have b:a.heap[w.heap.size]? = M (K #[I J 0,I J 0,V ⟨#[]⟩,Z U 0 0,I J 0] 101 (0,0)):=(m.block w.heap.size (by simp)).trans (fH w _);have u:=fJ a _ 0 _ _ _ b;have x:=fJ a _ 1 _ _ _ b;have y:=fJ a _ 2 _ _ _ b;have z:=fJ a _ 3 _ _ _ b;have B:=fJ a _ 4 _ _ _ b
 have O:=fK a _ 0 _ _ b;have P:=fK a _ 1 _ _ b;have T:=fK a _ 2 _ _ b;have W:=fK a _ 3 _ _ b;have y4:=fK a _ 4 _ _ b
 simp at u x y z B;have n:=H9 f;have C:=H9 b
 clear m f b;go_wp2;have i:=((((n.o.setCell (p:=⟨w.heap.size,0,U⟩) (aL _) (I J 0)).setCell (p:=⟨w.heap.size,1,U⟩) (aL _) (I J 0)).setCell (p:=⟨w.heap.size,2,U⟩) (aL _) (V ⟨#[]⟩)).setCell (p:=⟨w.heap.size,3,U⟩) (aL _) (Z U 0 0)).setCell (p:=⟨w.heap.size,4,U⟩) (aL _) (I J 0);have d:=fM _ _ 4 _ _ (I J 0) (fM _ _ 3 _ _ (Z U 0 0) (fM _ _ 2 _ _ (V ⟨#[]⟩) (fM _ _ 1 _ _ (I J 0) (fM _ _ 0 _ _ (I J 0) C.o))));generalize (((((a.setCell ⟨w.heap.size,0,U⟩ (Value.int J 0)).setCell ⟨w.heap.size,1,U⟩ (Value.int J 0)).setCell ⟨w.heap.size,2,U⟩ (Value.string ⟨#[]⟩)).setCell ⟨w.heap.size,3,U⟩ (Value.slice U 0 0)).setCell ⟨w.heap.size,4,U⟩ (Value.int J 0))=c at i d ⊢;have D:c.cell? ⟨w.heap.size,0,U⟩=M (I J 0):=fJ c _ 0 _ _ _ d;have G:c.cell? ⟨w.heap.size,1,U⟩=M (I J 0):=fJ c _ 1 _ _ _ d;have H:c.cell? ⟨w.heap.size,2,U⟩=M (V ⟨#[]⟩):=fJ c _ 2 _ _ _ d;have L:c.cell? ⟨w.heap.size,3,U⟩=M (Z U 0 0):=fJ c _ 3 _ _ _ d;have N:c.cell? ⟨w.heap.size,4,U⟩=M (I J 0):=fJ c _ 4 _ _ _ d;refine gq (v:=.tuple #[.agg #[I J 0,I J 0,V ⟨#[]⟩,Z U 0 0,I J 0],.bool F]) (by simp[results,results125,go_sem,D,G,H,L,N]) rfl ⟨rfl,i⟩
theorem Tn (s:Sp.St)(S:Nat->Prop)(g:Nat)(z:Int)(i:Nat)(w:X)(h:iU w S g s)(ok:Sp.Ok s)(hp:Sp.place s.l z=M i)(B:i<s.l.length):
 Calls prog 125 #[Q (M ⟨g,0,U⟩),I J z] w fun e w'=>∃ao cap,e=Y (.tuple #[.agg #[I J s.l[i].id,I J s.l[i].size,V s.l[i].note,Z ao s.l[i].bytes.length cap,I J s.l[i].sent],.bool true])∧iG w' ao cap s.l[i].bytes∧Below w.heap.size w w':=by
 have C:=(fI _ w).alloc (aL _) (K #[I J 0,I J 0,V ⟨#[]⟩,Z U 0 0,I J 0] 101);have D:=H9 (tY s S g z _ (h.stay C) (by have:=ok.few;omega));rw[Sp.zq hp] at D;have HB:=H9 C;have G:=H9 h;have H:=ok.all _ (aB B);have k1:=H.long;have k2:=H.note;have nN:=ok.few
 have hi':(i:Int)<s.l.length:=by omega
 obtain⟨u,L⟩:∃u,s.l[i]=u:=⟨_,rfl⟩;rw[L] at k1 k2 ⊢;have N:=H9 L;clear h ok hp C H L;go_enter func125,ntmps125;go_wp2_with fail
 refine D.o.mono ?_;rintro e O ⟨rfl,P⟩;have f:=then_ HB.o P;obtain⟨gu,t⟩:=om.of (G.o.stay f) B;obtain⟨q,h0,h1,h2,h3,h4,hf,m⟩:=om.up (G.o.stay f) t B;rw[N.o] at h0 h1 h2 h3 h4 m;obtain⟨cap,hcap,hc⟩:=t;have HC:=H9 (EL u.id u.size u.sent u.note q.bo u.bytes.length q.gJ u.bytes O m rfl (by omega) (by omega));have b:O.heap[w.heap.size]? = M (K #[I J 0,I J 0,V ⟨#[]⟩,Z U 0 0,I J 0] 101 (0,0)):=(P.block w.heap.size (by simp)).trans (fH w _);have T:w.heap.size<O.heap.size:=(aK.1 b).1;have W:=H9 f;have HR:=H9 b
 clear P f b hf m G D HB;go_wp2_with fail
 refine HC.o.mono ?_;rintro e c ⟨j,a,rfl,hO,n⟩;have x:=then_ W.o n;have b:=(n.block w.heap.size T).trans HR.o;have z0:=fJ c _ 0 _ _ _ b;have z1:=fJ c _ 1 _ _ _ b;have z2:=fJ c _ 2 _ _ _ b;have z3:=fJ c _ 3 _ _ _ b;have z4:=fJ c _ 4 _ _ _ b
 have y0:=fK c _ 0 _ _ b;have y1:=fK c _ 1 _ _ b;have y2:=fK c _ 2 _ _ b;have y3:=fK c _ 3 _ _ b;have y4:=fK c _ 4 _ _ b
 simp at z0 z1 z2 z3 z4;have jJ:=H9 x;have HR4:=H9 b;have HO:=H9 hO
 clear x b n hO HR HC;go_wp2;have y:=((((jJ.o.setCell (p:=⟨w.heap.size,0,U⟩) (aL _) (I J u.id)).setCell (p:=⟨w.heap.size,1,U⟩) (aL _) (I J u.size)).setCell (p:=⟨w.heap.size,2,U⟩) (aL _) (V u.note)).setCell (p:=⟨w.heap.size,3,U⟩) (aL _) (Z j u.bytes.length a)).setCell (p:=⟨w.heap.size,4,U⟩) (aL _) (I J u.sent);have r:=fM _ _ 4 _ _ (I J u.sent) (fM _ _ 3 _ _ (Z j u.bytes.length a) (fM _ _ 2 _ _ (V u.note) (fM _ _ 1 _ _ (I J u.size) (fM _ _ 0 _ _ (I J u.id) HR4.o))));have vH:=(HO.o.turns (mK w.heap.size [I J u.id,I J u.size,V u.note,Z j u.bytes.length a,I J u.sent] 0 c) (fun k e h=>by subst h;omega)).wZ;change iG (((((c.setCell ⟨w.heap.size,0,U⟩ (Value.int J u.id)).setCell ⟨w.heap.size,1,U⟩ (Value.int J u.size)).setCell ⟨w.heap.size,2,U⟩ (Value.string u.note)).setCell ⟨w.heap.size,3,U⟩ (Value.slice j u.bytes.length a)).setCell ⟨w.heap.size,4,U⟩ (Value.int J u.sent)) _ _ _ at vH;generalize (((((c.setCell ⟨w.heap.size,0,U⟩ (Value.int J u.id)).setCell ⟨w.heap.size,1,U⟩ (Value.int J u.size)).setCell ⟨w.heap.size,2,U⟩ (Value.string u.note)).setCell ⟨w.heap.size,3,U⟩ (Value.slice j u.bytes.length a)).setCell ⟨w.heap.size,4,U⟩ (Value.int J u.sent))=d at y r vH ⊢;have r0:d.cell? ⟨w.heap.size,0,U⟩=M (I J u.id):=fJ d _ 0 _ _ _ r;have r1:d.cell? ⟨w.heap.size,1,U⟩=M (I J u.size):=fJ d _ 1 _ _ _ r;have r2:d.cell? ⟨w.heap.size,2,U⟩=M (V u.note):=fJ d _ 2 _ _ _ r;have r3:d.cell? ⟨w.heap.size,3,U⟩=M (Z j u.bytes.length a):=fJ d _ 3 _ _ _ r;have r4:d.cell? ⟨w.heap.size,4,U⟩=M (I J u.sent):=fJ d _ 4 _ _ _ r;refine gq (v:=.tuple #[.agg #[I J u.id,I J u.size,V u.note,Z j u.bytes.length a,I J u.sent],.bool true]) (by simp[results,results125,go_sem,r0,r1,r2,r3,r4]) rfl ⟨j,a,rfl,vH,y⟩
theorem xS {x:Jn.E}(h:Jn.fits x=F):sj x=([],1):=by unfold sj;rw[if_neg (by simp[h])]
theorem uX {x:Jn.E}(h:Jn.fits x=true):sj x=(Jn.enc x,0):=by unfold sj;rw[if_pos h]
theorem Ab {s:Sp.St}(ok:Sp.Ok s):EM s.l:=Sp.Ok.small ok
theorem WV (s:Sr.Sh)(S:Nat->Prop)(g b1:Nat)(x:Jn.E)(B:aj)(C D:Nat)(r:Sp.St×Nat)(w:X)(h:iH w S g s)(ok:Sr.Ok s)(hT:iG w B D x.text)(hn:x.text.length=C)
 (hF:∀W G,Below w.heap.size w W->w.heap.size+1<=W.heap.size->iU W (fun k=>w.heap.size+1<=k) G s.h->Calls prog 174 #[Q (M ⟨G,0,U⟩),Q (M ⟨b1,0,U⟩)] W (Did (fun k=>w.heap.size+1<=k) 104 W G r)) :
 Calls prog 159 #[Q (M ⟨g,0,U⟩),.agg #[I J x.kind,I J x.id,I J x.n,Z B C D],.func (.func 174) #[] #[Q (M ⟨b1,0,U⟩)]] w (jg S w g (Sr.write s r x)):=by
 obtain⟨gs,gl,ao,ca,P,hI⟩:=h;have jo:=(fI _ w).alloc (aL _) (K #[I J x.kind,I J x.id,I J x.n,Z B C D] 217);have l:=hI.stay jo;obtain⟨⟨c0,c1⟩,_⟩:=ql l.row;have HC:=H9 (xQ s.h P gs _ l.wE (Ab ok.h));have m:=H9 hI;have oG:=H9 jo;have HF:=H9 hF;have HT:=H9 hT
 have hlt:=hI.lt;clear hI l jo hF hT;go_enter func159,ntmps159;go_wp2_with fail
 refine HC.o.mono ?_;rintro e w2 ⟨G,rfl,H,f⟩;have p:Below w.heap.size w w2:=then_ oG.o f;have HD:=H9 (HF.o w2 G p (by have:=f.size;simpa using this) (H.mono (fun k _ e=>by simpa using e)));have L:=H9 p;have q:=H9 f
 clear H f p HC HF c0 c1;go_wp2_with fail
 refine HD.o.mono ?_;intro e w3 hd;have j:=q.o.size;have N:w.heap.size+1<=w2.heap.size:=by simpa using j
 obtain⟨he,M6,t⟩:=hd.ZE N;have O:Below (w.heap.size+1) (w.alloc (K #[I J x.kind,I J x.id,I J x.n,Z B C D] 217)) w3:=(q.o.mono (by simp)).trans t;have T:Below w.heap.size w w3:=L.o.trans (t.mono (Nat.le_succ _));obtain⟨x0,x1,x2,x3⟩:=EO (Nat.lt_succ_self _) O;have c:=H9 T;have Jf:=H9 M6
 clear hd M6 t O T j N HD L q;subst he;by_cases i:r.2=0
 . have u:=H9 (uW x B C D w3 (HT.o.stay c.o) hn);rw[i];cases d:Jn.fits x with
   | false =>
     have v:Hid (∀W,Below w.heap.size w W->jg S w g (Sr.write s r x) (Y (I J (1:Nat))) W):=fun W hb=>jg.none_ ⟨gs,gl,ao,ca,P,m.o⟩ hb (Sr.xq i d);unfold qL at u;rw[xS d] at u;clear i d m;go_wp2_with fail
     refine u.o.mono ?_;rintro e w4 ⟨xR,IB,rfl,_,a⟩;have jJ:=H9 (then_ c.o a);clear a;go_wp2;go_ret;exact v.o _ jJ.o
   | true =>
     unfold qL at u;rw[uX d] at u;have hlx:(Jn.enc x).length<=1048600:=by have:=Jn.CW d;have:=Jn.xk d;omega
     by_cases hl:100000<s.log.length+(Jn.enc x).length
     . have v:Hid (∀W,Below w.heap.size w W->jg S w g (Sr.write s r x) (Y (I J (16:Nat))) W):=fun W hb=>jg.none_ ⟨gs,gl,ao,ca,P,m.o⟩ hb (Sr.uE i d hl);have HL:=H9 (show ¬s.log.length+(Jn.enc x).length<=100000 by omega);clear i d hl;generalize Jn.enc x=y at *;go_wp2_with fail
       refine u.o.mono ?_;rintro e w4 ⟨xR,IB,rfl,_,a⟩;have b:=then_ c.o a;have z:=m.o.stay b;obtain⟨⟨c0,c1⟩,_⟩:=ql z.row;have HW:=H9 (sN z.log xR IB y.length HL.o);have jJ:=H9 b;clear a b z;go_wp2_with fail
       refine HW.o.mono ?_;rintro e w5 ⟨rfl,JD⟩;rw[JD];clear JD;go_wp2;go_ret;exact v.o _ jJ.o
     . have v:Hid (∀W,iH W (gM S w) g ⟨r.1,s.log++Jn.enc x,s.sure⟩->Turns S w W->jg S w g (Sr.write s r x) (Y (I J 0)) W):=fun W h1 h2=>by
        rw[Sr.xu i d hl];exact⟨rfl,h1,h2⟩
       have HL:=H9 (show s.log.length+(Jn.enc x).length<=100000 by omega);clear i d hl;generalize Jn.enc x=y at *;go_wp2_with fail
       refine u.o.mono ?_;rintro e w4 ⟨xR,IB,rfl,hO4,a⟩;have b:=then_ c.o a;have z:=m.o.stay b;obtain⟨⟨c0,c1⟩,_⟩:=ql z.row;have HW:=H9 (qF z.log xR IB y.length y hO4.wZ rfl HL.o);have HS4:=H9 (((Jf.o.stay a).mono (S':=fun k=>w.heap.size<=k) (fun k _ e=>Nat.le_of_succ_le e)));have jJ:=H9 b;clear a b z hO4;go_wp2_with fail
       refine HW.o.mono ?_;rintro e w5 ⟨CB,ca5,rfl,hL5,Tg,wQ⟩;obtain⟨rZ,hA,WW⟩:=m.o.laid jJ.o HS4.o hL5 Tg wQ;obtain⟨⟨y0,y1⟩,z0,z1⟩:=ql rZ;have HA:=H9 hA;have HTu:=H9 WW
       clear hL5 Tg wQ rZ hA WW c0 c1;go_wp2;go_ret;exact v.o _ HA.o HTu.o
 . have v:Hid (jg S w g (Sr.write s r x) (Y (I J (r.2:Int))) w3):=jg.none_ ⟨gs,gl,ao,ca,P,m.o⟩ c.o (Sr.uD i);have hc':¬(r.2:Int)=0:=by omega
   clear i;generalize (r.2:Int)=rc at *;go_wp2;go_ret;exact v.o
theorem WX (s:Sr.Sh)(S:Nat->Prop)(g b1 b2:Nat)(x:Jn.E)(B:aj)(C D:Nat)(r:Sp.St×Nat)(w:X)(h:iH w S g s)(ok:Sr.Ok s)(hT:iG w B D x.text)(hn:x.text.length=C)
 (hF:∀W G,Below w.heap.size w W->w.heap.size+1<=W.heap.size->iU W (fun k=>w.heap.size+1<=k) G s.h->Calls prog 172 #[Q (M ⟨G,0,U⟩),Q (M ⟨b1,0,U⟩),Q (M ⟨b2,0,U⟩)] W (Did (fun k=>w.heap.size+1<=k) 104 W G r)) :
 Calls prog 159 #[Q (M ⟨g,0,U⟩),.agg #[I J x.kind,I J x.id,I J x.n,Z B C D],.func (.func 172) #[] #[Q (M ⟨b1,0,U⟩),Q (M ⟨b2,0,U⟩)]] w (jg S w g (Sr.write s r x)):=by
 obtain⟨gs,gl,ao,ca,P,hI⟩:=h;have jo:=(fI _ w).alloc (aL _) (K #[I J x.kind,I J x.id,I J x.n,Z B C D] 217);have l:=hI.stay jo;obtain⟨⟨c0,c1⟩,_⟩:=ql l.row;have HC:=H9 (xQ s.h P gs _ l.wE (Ab ok.h));have m:=H9 hI;have oG:=H9 jo;have HF:=H9 hF;have HT:=H9 hT
 have hlt:=hI.lt;clear hI l jo hF hT;go_enter func159,ntmps159;go_wp2_with fail
 refine HC.o.mono ?_;rintro e w2 ⟨G,rfl,H,f⟩;have p:Below w.heap.size w w2:=then_ oG.o f;have HD:=H9 (HF.o w2 G p (by have:=f.size;simpa using this) (H.mono (fun k _ e=>by simpa using e)));have L:=H9 p;have q:=H9 f
 clear H f p HC HF c0 c1;go_wp2_with fail
 refine HD.o.mono ?_;intro e w3 hd;have j:=q.o.size;have N:w.heap.size+1<=w2.heap.size:=by simpa using j
 obtain⟨he,M6,t⟩:=hd.ZE N;have O:Below (w.heap.size+1) (w.alloc (K #[I J x.kind,I J x.id,I J x.n,Z B C D] 217)) w3:=(q.o.mono (by simp)).trans t;have T:Below w.heap.size w w3:=L.o.trans (t.mono (Nat.le_succ _));obtain⟨x0,x1,x2,x3⟩:=EO (Nat.lt_succ_self _) O;have c:=H9 T;have Jf:=H9 M6
 clear hd M6 t O T j N HD L q;subst he;by_cases i:r.2=0
 . have u:=H9 (uW x B C D w3 (HT.o.stay c.o) hn);rw[i];cases d:Jn.fits x with
   | false =>
     have v:Hid (∀W,Below w.heap.size w W->jg S w g (Sr.write s r x) (Y (I J (1:Nat))) W):=fun W hb=>jg.none_ ⟨gs,gl,ao,ca,P,m.o⟩ hb (Sr.xq i d);unfold qL at u;rw[xS d] at u;clear i d m;go_wp2_with fail
     refine u.o.mono ?_;rintro e w4 ⟨xR,IB,rfl,_,a⟩;have jJ:=H9 (then_ c.o a);clear a;go_wp2;go_ret;exact v.o _ jJ.o
   | true =>
     unfold qL at u;rw[uX d] at u;have hlx:(Jn.enc x).length<=1048600:=by have:=Jn.CW d;have:=Jn.xk d;omega
     by_cases hl:100000<s.log.length+(Jn.enc x).length
     . have v:Hid (∀W,Below w.heap.size w W->jg S w g (Sr.write s r x) (Y (I J (16:Nat))) W):=fun W hb=>jg.none_ ⟨gs,gl,ao,ca,P,m.o⟩ hb (Sr.uE i d hl);have HL:=H9 (show ¬s.log.length+(Jn.enc x).length<=100000 by omega);clear i d hl;generalize Jn.enc x=y at *;go_wp2_with fail
       refine u.o.mono ?_;rintro e w4 ⟨xR,IB,rfl,_,a⟩;have b:=then_ c.o a;have z:=m.o.stay b;obtain⟨⟨c0,c1⟩,_⟩:=ql z.row;have HW:=H9 (sN z.log xR IB y.length HL.o);have jJ:=H9 b;clear a b z;go_wp2_with fail
       refine HW.o.mono ?_;rintro e w5 ⟨rfl,JD⟩;rw[JD];clear JD;go_wp2;go_ret;exact v.o _ jJ.o
     . have v:Hid (∀W,iH W (gM S w) g ⟨r.1,s.log++Jn.enc x,s.sure⟩->Turns S w W->jg S w g (Sr.write s r x) (Y (I J 0)) W):=fun W h1 h2=>by
        rw[Sr.xu i d hl];exact⟨rfl,h1,h2⟩
       have HL:=H9 (show s.log.length+(Jn.enc x).length<=100000 by omega);clear i d hl;generalize Jn.enc x=y at *;go_wp2_with fail
       refine u.o.mono ?_;rintro e w4 ⟨xR,IB,rfl,hO4,a⟩;have b:=then_ c.o a;have z:=m.o.stay b;obtain⟨⟨c0,c1⟩,_⟩:=ql z.row;have HW:=H9 (qF z.log xR IB y.length y hO4.wZ rfl HL.o);have HS4:=H9 (((Jf.o.stay a).mono (S':=fun k=>w.heap.size<=k) (fun k _ e=>Nat.le_of_succ_le e)));have jJ:=H9 b;clear a b z hO4;go_wp2_with fail
       refine HW.o.mono ?_;rintro e w5 ⟨CB,ca5,rfl,hL5,Tg,wQ⟩;obtain⟨rZ,hA,WW⟩:=m.o.laid jJ.o HS4.o hL5 Tg wQ;obtain⟨⟨y0,y1⟩,z0,z1⟩:=ql rZ;have HA:=H9 hA;have HTu:=H9 WW
       clear hL5 Tg wQ rZ hA WW c0 c1;go_wp2;go_ret;exact v.o _ HA.o HTu.o
 . have v:Hid (jg S w g (Sr.write s r x) (Y (I J (r.2:Int))) w3):=jg.none_ ⟨gs,gl,ao,ca,P,m.o⟩ c.o (Sr.uD i);have hc':¬(r.2:Int)=0:=by omega
   clear i;generalize (r.2:Int)=rc at *;go_wp2;go_ret;exact v.o
theorem WY (s:Sr.Sh)(S:Nat->Prop)(g b1 b2 b3:Nat)(x:Jn.E)(B:aj)(C D:Nat)(r:Sp.St×Nat)(w:X)(h:iH w S g s)(ok:Sr.Ok s)(hT:iG w B D x.text)(hn:x.text.length=C)
 (hF:∀W G,Below w.heap.size w W->w.heap.size+1<=W.heap.size->iU W (fun k=>w.heap.size+1<=k) G s.h->Calls prog 170 #[Q (M ⟨G,0,U⟩),Q (M ⟨b1,0,U⟩),Q (M ⟨b2,0,U⟩),Q (M ⟨b3,0,U⟩)] W (Did (fun k=>w.heap.size+1<=k) 104 W G r)) :
 Calls prog 159 #[Q (M ⟨g,0,U⟩),.agg #[I J x.kind,I J x.id,I J x.n,Z B C D],.func (.func 170) #[] #[Q (M ⟨b1,0,U⟩),Q (M ⟨b2,0,U⟩),Q (M ⟨b3,0,U⟩)]] w (jg S w g (Sr.write s r x)):=by
 obtain⟨gs,gl,ao,ca,P,hI⟩:=h;have jo:=(fI _ w).alloc (aL _) (K #[I J x.kind,I J x.id,I J x.n,Z B C D] 217);have l:=hI.stay jo;obtain⟨⟨c0,c1⟩,_⟩:=ql l.row;have HC:=H9 (xQ s.h P gs _ l.wE (Ab ok.h));have m:=H9 hI;have oG:=H9 jo;have HF:=H9 hF;have HT:=H9 hT
 have hlt:=hI.lt;clear hI l jo hF hT;go_enter func159,ntmps159;go_wp2_with fail
 refine HC.o.mono ?_;rintro e w2 ⟨G,rfl,H,f⟩;have p:Below w.heap.size w w2:=then_ oG.o f;have HD:=H9 (HF.o w2 G p (by have:=f.size;simpa using this) (H.mono (fun k _ e=>by simpa using e)));have L:=H9 p;have q:=H9 f
 clear H f p HC HF c0 c1;go_wp2_with fail
 refine HD.o.mono ?_;intro e w3 hd;have j:=q.o.size;have N:w.heap.size+1<=w2.heap.size:=by simpa using j
 obtain⟨he,M6,t⟩:=hd.ZE N;have O:Below (w.heap.size+1) (w.alloc (K #[I J x.kind,I J x.id,I J x.n,Z B C D] 217)) w3:=(q.o.mono (by simp)).trans t;have T:Below w.heap.size w w3:=L.o.trans (t.mono (Nat.le_succ _));obtain⟨x0,x1,x2,x3⟩:=EO (Nat.lt_succ_self _) O;have c:=H9 T;have Jf:=H9 M6
 clear hd M6 t O T j N HD L q;subst he;by_cases i:r.2=0
 . have u:=H9 (uW x B C D w3 (HT.o.stay c.o) hn);rw[i];cases d:Jn.fits x with
   | false =>
     have v:Hid (∀W,Below w.heap.size w W->jg S w g (Sr.write s r x) (Y (I J (1:Nat))) W):=fun W hb=>jg.none_ ⟨gs,gl,ao,ca,P,m.o⟩ hb (Sr.xq i d);unfold qL at u;rw[xS d] at u;clear i d m;go_wp2_with fail
     refine u.o.mono ?_;rintro e w4 ⟨xR,IB,rfl,_,a⟩;have jJ:=H9 (then_ c.o a);clear a;go_wp2;go_ret;exact v.o _ jJ.o
   | true =>
     unfold qL at u;rw[uX d] at u;have hlx:(Jn.enc x).length<=1048600:=by have:=Jn.CW d;have:=Jn.xk d;omega
     by_cases hl:100000<s.log.length+(Jn.enc x).length
     . have v:Hid (∀W,Below w.heap.size w W->jg S w g (Sr.write s r x) (Y (I J (16:Nat))) W):=fun W hb=>jg.none_ ⟨gs,gl,ao,ca,P,m.o⟩ hb (Sr.uE i d hl);have HL:=H9 (show ¬s.log.length+(Jn.enc x).length<=100000 by omega);clear i d hl;generalize Jn.enc x=y at *;go_wp2_with fail
       refine u.o.mono ?_;rintro e w4 ⟨xR,IB,rfl,_,a⟩;have b:=then_ c.o a;have z:=m.o.stay b;obtain⟨⟨c0,c1⟩,_⟩:=ql z.row;have HW:=H9 (sN z.log xR IB y.length HL.o);have jJ:=H9 b;clear a b z;go_wp2_with fail
       refine HW.o.mono ?_;rintro e w5 ⟨rfl,JD⟩;rw[JD];clear JD;go_wp2;go_ret;exact v.o _ jJ.o
     . have v:Hid (∀W,iH W (gM S w) g ⟨r.1,s.log++Jn.enc x,s.sure⟩->Turns S w W->jg S w g (Sr.write s r x) (Y (I J 0)) W):=fun W h1 h2=>by
        rw[Sr.xu i d hl];exact⟨rfl,h1,h2⟩
       have HL:=H9 (show s.log.length+(Jn.enc x).length<=100000 by omega);clear i d hl;generalize Jn.enc x=y at *;go_wp2_with fail
       refine u.o.mono ?_;rintro e w4 ⟨xR,IB,rfl,hO4,a⟩;have b:=then_ c.o a;have z:=m.o.stay b;obtain⟨⟨c0,c1⟩,_⟩:=ql z.row;have HW:=H9 (qF z.log xR IB y.length y hO4.wZ rfl HL.o);have HS4:=H9 (((Jf.o.stay a).mono (S':=fun k=>w.heap.size<=k) (fun k _ e=>Nat.le_of_succ_le e)));have jJ:=H9 b;clear a b z hO4;go_wp2_with fail
       refine HW.o.mono ?_;rintro e w5 ⟨CB,ca5,rfl,hL5,Tg,wQ⟩;obtain⟨rZ,hA,WW⟩:=m.o.laid jJ.o HS4.o hL5 Tg wQ;obtain⟨⟨y0,y1⟩,z0,z1⟩:=ql rZ;have HA:=H9 hA;have HTu:=H9 WW
       clear hL5 Tg wQ rZ hA WW c0 c1;go_wp2;go_ret;exact v.o _ HA.o HTu.o
 . have v:Hid (jg S w g (Sr.write s r x) (Y (I J (r.2:Int))) w3):=jg.none_ ⟨gs,gl,ao,ca,P,m.o⟩ c.o (Sr.uD i);have hc':¬(r.2:Int)=0:=by omega
   clear i;generalize (r.2:Int)=rc at *;go_wp2;go_ret;exact v.o
theorem WZ (s:Sr.Sh)(S:Nat->Prop)(g b1 b2:Nat)(x:Jn.E)(B:aj)(C D:Nat)(r:Sp.St×Nat)(w:X)(h:iH w S g s)(ok:Sr.Ok s)(hT:iG w B D x.text)(hn:x.text.length=C)
 (hF:∀W G,Below w.heap.size w W->w.heap.size+1<=W.heap.size->iU W (fun k=>w.heap.size+1<=k) G s.h->Calls prog 160 #[Q (M ⟨G,0,U⟩),Q (M ⟨b1,0,U⟩),Q (M ⟨b2,0,U⟩)] W (Did (fun k=>w.heap.size+1<=k) 104 W G r)) :
 Calls prog 159 #[Q (M ⟨g,0,U⟩),.agg #[I J x.kind,I J x.id,I J x.n,Z B C D],.func (.func 160) #[] #[Q (M ⟨b1,0,U⟩),Q (M ⟨b2,0,U⟩)]] w (jg S w g (Sr.write s r x)):=by
 obtain⟨gs,gl,ao,ca,P,hI⟩:=h;have jo:=(fI _ w).alloc (aL _) (K #[I J x.kind,I J x.id,I J x.n,Z B C D] 217);have l:=hI.stay jo;obtain⟨⟨c0,c1⟩,_⟩:=ql l.row;have HC:=H9 (xQ s.h P gs _ l.wE (Ab ok.h));have m:=H9 hI;have oG:=H9 jo;have HF:=H9 hF;have HT:=H9 hT
 have hlt:=hI.lt;clear hI l jo hF hT;go_enter func159,ntmps159;go_wp2_with fail
 refine HC.o.mono ?_;rintro e w2 ⟨G,rfl,H,f⟩;have p:Below w.heap.size w w2:=then_ oG.o f;have HD:=H9 (HF.o w2 G p (by have:=f.size;simpa using this) (H.mono (fun k _ e=>by simpa using e)));have L:=H9 p;have q:=H9 f
 clear H f p HC HF c0 c1;go_wp2_with fail
 refine HD.o.mono ?_;intro e w3 hd;have j:=q.o.size;have N:w.heap.size+1<=w2.heap.size:=by simpa using j
 obtain⟨he,M6,t⟩:=hd.ZE N;have O:Below (w.heap.size+1) (w.alloc (K #[I J x.kind,I J x.id,I J x.n,Z B C D] 217)) w3:=(q.o.mono (by simp)).trans t;have T:Below w.heap.size w w3:=L.o.trans (t.mono (Nat.le_succ _));obtain⟨x0,x1,x2,x3⟩:=EO (Nat.lt_succ_self _) O;have c:=H9 T;have Jf:=H9 M6
 clear hd M6 t O T j N HD L q;subst he;by_cases i:r.2=0
 . have u:=H9 (uW x B C D w3 (HT.o.stay c.o) hn);rw[i];cases d:Jn.fits x with
   | false =>
     have v:Hid (∀W,Below w.heap.size w W->jg S w g (Sr.write s r x) (Y (I J (1:Nat))) W):=fun W hb=>jg.none_ ⟨gs,gl,ao,ca,P,m.o⟩ hb (Sr.xq i d);unfold qL at u;rw[xS d] at u;clear i d m;go_wp2_with fail
     refine u.o.mono ?_;rintro e w4 ⟨xR,IB,rfl,_,a⟩;have jJ:=H9 (then_ c.o a);clear a;go_wp2;go_ret;exact v.o _ jJ.o
   | true =>
     unfold qL at u;rw[uX d] at u;have hlx:(Jn.enc x).length<=1048600:=by have:=Jn.CW d;have:=Jn.xk d;omega
     by_cases hl:100000<s.log.length+(Jn.enc x).length
     . have v:Hid (∀W,Below w.heap.size w W->jg S w g (Sr.write s r x) (Y (I J (16:Nat))) W):=fun W hb=>jg.none_ ⟨gs,gl,ao,ca,P,m.o⟩ hb (Sr.uE i d hl);have HL:=H9 (show ¬s.log.length+(Jn.enc x).length<=100000 by omega);clear i d hl;generalize Jn.enc x=y at *;go_wp2_with fail
       refine u.o.mono ?_;rintro e w4 ⟨xR,IB,rfl,_,a⟩;have b:=then_ c.o a;have z:=m.o.stay b;obtain⟨⟨c0,c1⟩,_⟩:=ql z.row;have HW:=H9 (sN z.log xR IB y.length HL.o);have jJ:=H9 b;clear a b z;go_wp2_with fail
       refine HW.o.mono ?_;rintro e w5 ⟨rfl,JD⟩;rw[JD];clear JD;go_wp2;go_ret;exact v.o _ jJ.o
     . have v:Hid (∀W,iH W (gM S w) g ⟨r.1,s.log++Jn.enc x,s.sure⟩->Turns S w W->jg S w g (Sr.write s r x) (Y (I J 0)) W):=fun W h1 h2=>by
        rw[Sr.xu i d hl];exact⟨rfl,h1,h2⟩
       have HL:=H9 (show s.log.length+(Jn.enc x).length<=100000 by omega);clear i d hl;generalize Jn.enc x=y at *;go_wp2_with fail
       refine u.o.mono ?_;rintro e w4 ⟨xR,IB,rfl,hO4,a⟩;have b:=then_ c.o a;have z:=m.o.stay b;obtain⟨⟨c0,c1⟩,_⟩:=ql z.row;have HW:=H9 (qF z.log xR IB y.length y hO4.wZ rfl HL.o);have HS4:=H9 (((Jf.o.stay a).mono (S':=fun k=>w.heap.size<=k) (fun k _ e=>Nat.le_of_succ_le e)));have jJ:=H9 b;clear a b z hO4;go_wp2_with fail
       refine HW.o.mono ?_;rintro e w5 ⟨CB,ca5,rfl,hL5,Tg,wQ⟩;obtain⟨rZ,hA,WW⟩:=m.o.laid jJ.o HS4.o hL5 Tg wQ;obtain⟨⟨y0,y1⟩,z0,z1⟩:=ql rZ;have HA:=H9 hA;have HTu:=H9 WW
       clear hL5 Tg wQ rZ hA WW c0 c1;go_wp2;go_ret;exact v.o _ HA.o HTu.o
 . have v:Hid (jg S w g (Sr.write s r x) (Y (I J (r.2:Int))) w3):=jg.none_ ⟨gs,gl,ao,ca,P,m.o⟩ c.o (Sr.uD i);have hc':¬(r.2:Int)=0:=by omega
   clear i;generalize (r.2:Int)=rc at *;go_wp2;go_ret;exact v.o
theorem Bc (w:X):
 Calls prog 8 #[] w fun e w'=>∃g,e=Y (Q (M ⟨g,0,U⟩))∧iH w' (fun k=>w.heap.size<=k) g Sr.new∧Below w.heap.size w w':=by
 have t:=H9 (W9 w);have u:=H9 (fun W=>NS W);go_enter func8,ntmps8;go_wp2_with fail
 refine t.o.mono ?_;rintro e b ⟨rfl,j,q⟩;have z:=j.lt;have r:=H9 j;have l:=H9 q
 clear j q;go_wp2_with fail
 refine(u.o b).mono ?_;rintro e d ⟨rfl,f,a⟩;have v:=f.lt;have x:=a.size;have m:=l.o.size;have c:=H9 (then_ l.o a);have s:Hid (iH (d.alloc (K #[Q (M ⟨w.heap.size,0,U⟩),Q (M ⟨b.heap.size,0,U⟩)] 45)) (fun k=>w.heap.size<=k) d.heap.size Sr.new∧Below w.heap.size w (d.alloc (K #[Q (M ⟨w.heap.size,0,U⟩),Q (M ⟨b.heap.size,0,U⟩)] 45))):=by
  have n:=(fI _ d).alloc (aL _) (K #[Q (M ⟨w.heap.size,0,U⟩),Q (M ⟨b.heap.size,0,U⟩)] 45);have p:kP d 0 b.heap.size [] 0 U 0:=⟨f.row,iD.nil _ _ _,ay _,f.le,f.few⟩;refine⟨⟨w.heap.size,b.heap.size,U,0,fun k=>w.heap.size<=k∧k<b.heap.size,fH d _,((r.o.mono (S':=fun k=>w.heap.size<=k∧k<b.heap.size) (fun k y e=>⟨e,y⟩)).stay a).stay n,p.stay n,c.o.size,fun k e=>⟨e.1,by omega,fun i=>?_⟩,fun k e=>?_⟩,then_ c.o n⟩
  . rcases i with i | i
    . omega
    . cases i
  . rcases e with e | e
    . exact⟨by show w.heap.size<=k;omega,by omega⟩
    . cases e
 clear f a x m l c r;go_wp2;go_ret;exact⟨_,rfl,s.o.1,s.o.2⟩
section
variable {s:Sr.Sh} {S:Nat->Prop} {g:Nat} {w:X}
theorem uR.turned {w':X}{gs a:Nat}{ao:aj}{b:Nat}{P:Nat->Prop}{d:au}{f:Nat}(h:uR w S g gs a ao b P s)(i:kP w' 0 a d f ao b)(c:Turns (fun k=>k=a) w w'):uR w' S g gs a ao b P ⟨s.h,d,f⟩∧Turns S w w' :=
 ⟨⟨c.row h.row (fun e=>(h.Qs a (A rfl)).2 e.symm),h.wE.turns c (fun k e j=>(h.inP k e).2.2 (A j)),i,h.self,h.inP,h.Qs⟩,c.mono (fun k e=>by subst e;exact(h.Qs _ (A rfl)).1)⟩
theorem oQ (h:iH w S g s):
 Calls prog 121 #[Q (M ⟨g,0,U⟩)] w fun e w'=>e=Y (.tuple #[])∧iH w' S g (Sr.sync s)∧Turns S w w':=by
 obtain⟨k,l,m,n,P,a⟩:=h;obtain⟨⟨r,t⟩,_⟩:=ql a.row;have p:=H9 (K9 a.log);have q:=H9 a;clear a;go_enter func121,ntmps121;go_wp2_with fail
 refine p.o.mono ?_;rintro e b ⟨rfl,c,d⟩;obtain⟨f,i⟩:=q.o.turned c d;have j:Hid (iH b S g (Sr.sync s)∧Turns S w b):=⟨⟨k,l,m,n,P,f⟩,i⟩;clear c d f i;go_wp2;go_end0
 exact⟨rfl,j.o.1,j.o.2⟩
end
section
variable {s:Sr.Sh} {S:Nat->Prop} {g:Nat} {w:X}
theorem yX (h:iH w S g s)(ok:Sr.Ok s)(a:Int):
 Calls prog 132 #[Q (M ⟨g,0,U⟩),I J a] w (jg S w g (Sr.drop s a)):=by
 have d:Below w.heap.size w ((w.alloc (K #[I J a] 3)).alloc (K #[I J 4,I J a,I J 0,Z U 0 0] 217)):=((fI _ _).alloc (by simp;try omega) _).alloc (by simp;try omega) _;have b:∀W,Below ((w.alloc (K #[I J a] 3)).alloc (K #[I J 4,I J a,I J 0,Z U 0 0] 217)).heap.size ((w.alloc (K #[I J a] 3)).alloc (K #[I J 4,I J a,I J 0,Z U 0 0] 217)) W->W.cell? ⟨w.heap.size,0,U⟩=M (I J a):=fun W f=>by rw[f.cell (p:=⟨w.heap.size,0,U⟩) (by simp;try omega)];exact kR _ _ _ _ (mP _ _ _ _ (by simp;try omega))
 have k:=H9 (WV s S g w.heap.size ⟨4,a,0,[]⟩ U 0 0 (Sp.drop s.h a) _ (h.stay d) ok (iG.nil _) rfl (fun W l f _ m=>Ta s.h _ l w.heap.size a W m ok.h (b W f)));have n:=H9 d;have t:∀(i:Fn) (first c:Array Value) (w:X),(Instr.makeFunc i first c).run prog w=.ok (.func i first c) w:=fun _ _ _ _=>rfl;unfold Sr.drop;generalize Sr.write s _ _=r at *;clear h ok d b;go_enter func132,ntmps132;go_wp2_with fail
 refine k.o.mono ?_;intro e u j;have q:=H9 (jg.from_ n.o j);obtain⟨rfl,_,_⟩:=j;go_wp2;go_ret;exact q.o
theorem F6 (h:iH w S g s)(ok:Sr.Ok s)(a:Int)(b:Int):
 Calls prog 131 #[Q (M ⟨g,0,U⟩),I J a,I J b] w (jg S w g (Sr.declare s a b)):=by
 have j:Below w.heap.size w (((w.alloc (K #[I J a] 3)).alloc (K #[I J b] 3)).alloc (K #[I J 3,I J a,I J b,Z U 0 0] 217)):=(((fI _ _).alloc (by simp;try omega) _).alloc (by simp;try omega) _).alloc (by simp;try omega) _;have d:∀W,Below (((w.alloc (K #[I J a] 3)).alloc (K #[I J b] 3)).alloc (K #[I J 3,I J a,I J b,Z U 0 0] 217)).heap.size (((w.alloc (K #[I J a] 3)).alloc (K #[I J b] 3)).alloc (K #[I J 3,I J a,I J b,Z U 0 0] 217)) W->W.cell? ⟨w.heap.size,0,U⟩=M (I J a):=fun W c=>by rw[c.cell (p:=⟨w.heap.size,0,U⟩) (by simp;try omega)];exact kR _ _ _ _ (kR _ _ _ _ (mP _ _ _ _ (by simp;try omega)))
 have f:∀W,Below (((w.alloc (K #[I J a] 3)).alloc (K #[I J b] 3)).alloc (K #[I J 3,I J a,I J b,Z U 0 0] 217)).heap.size (((w.alloc (K #[I J a] 3)).alloc (K #[I J b] 3)).alloc (K #[I J 3,I J a,I J b,Z U 0 0] 217)) W->W.cell? ⟨w.heap.size+1,0,U⟩=M (I J b):=fun W c=>by rw[c.cell (p:=⟨w.heap.size+1,0,U⟩) (by simp;try omega)];exact kR _ _ _ _ (mP _ _ _ _ (by simp;try omega))
 have m:=H9 (WX s S g w.heap.size (w.heap.size+1) ⟨3,a,b,[]⟩ U 0 0 (Sp.declare s.h a b) _ (h.stay j) ok (iG.nil _) rfl (fun W n c _ q=>Tc s.h _ n w.heap.size (w.heap.size+1) a b W q ok.h (d W c) (f W c)));have t:=H9 j;have v:∀(k:Fn) (first i:Array Value) (w:X),(Instr.makeFunc k first i).run prog w=.ok (.func k first i) w:=fun _ _ _ _=>rfl;unfold Sr.declare;generalize Sr.write s _ _=r at *;clear h ok j d f;go_enter func131,ntmps131;go_wp2_with fail
 refine m.o.mono ?_;intro e x l;have u:=H9 (jg.from_ t.o l);obtain⟨rfl,_,_⟩:=l;go_wp2;go_ret;exact u.o
theorem qM (h:iH w S g s)(ok:Sr.Ok s)(b:Int)(a:Int)(bo:aj)(c d:Nat)(l:au)(q:iG w bo d l)(t:l.length=c)(x:c<=1000000):
 Calls prog 130 #[Q (M ⟨g,0,U⟩),I J b,I J a,Z bo c d] w (jg S w g (Sr.append s b a l)):=by
 have i:Below w.heap.size w ((((w.alloc (K #[I J b] 3)).alloc (K #[I J a] 3)).alloc (K #[Z bo c d] 31)).alloc (K #[I J 2,I J b,I J 0,Z bo c d] 217)):=((((fI _ _).alloc (by simp;try omega) _).alloc (by simp;try omega) _).alloc (by simp;try omega) _).alloc (by simp;try omega) _;have j:∀W,Below ((((w.alloc (K #[I J b] 3)).alloc (K #[I J a] 3)).alloc (K #[Z bo c d] 31)).alloc (K #[I J 2,I J b,I J 0,Z bo c d] 217)).heap.size ((((w.alloc (K #[I J b] 3)).alloc (K #[I J a] 3)).alloc (K #[Z bo c d] 31)).alloc (K #[I J 2,I J b,I J 0,Z bo c d] 217)) W->W.cell? ⟨w.heap.size,0,U⟩=M (I J b):=fun W f=>by rw[f.cell (p:=⟨w.heap.size,0,U⟩) (by simp;try omega)];exact kR _ _ _ _ (kR _ _ _ _ (kR _ _ _ _ (mP _ _ _ _ (by simp;try omega))))
 have k:∀W,Below ((((w.alloc (K #[I J b] 3)).alloc (K #[I J a] 3)).alloc (K #[Z bo c d] 31)).alloc (K #[I J 2,I J b,I J 0,Z bo c d] 217)).heap.size ((((w.alloc (K #[I J b] 3)).alloc (K #[I J a] 3)).alloc (K #[Z bo c d] 31)).alloc (K #[I J 2,I J b,I J 0,Z bo c d] 217)) W->W.cell? ⟨w.heap.size+1,0,U⟩=M (I J a):=fun W f=>by rw[f.cell (p:=⟨w.heap.size+1,0,U⟩) (by simp;try omega)];exact kR _ _ _ _ (kR _ _ _ _ (mP _ _ _ _ (by simp;try omega)))
 have m:∀W,Below ((((w.alloc (K #[I J b] 3)).alloc (K #[I J a] 3)).alloc (K #[Z bo c d] 31)).alloc (K #[I J 2,I J b,I J 0,Z bo c d] 217)).heap.size ((((w.alloc (K #[I J b] 3)).alloc (K #[I J a] 3)).alloc (K #[Z bo c d] 31)).alloc (K #[I J 2,I J b,I J 0,Z bo c d] 217)) W->W.cell? ⟨w.heap.size+2,0,U⟩=M (Z bo c d):=fun W f=>by rw[f.cell (p:=⟨w.heap.size+2,0,U⟩) (by simp;try omega)];exact kR _ _ _ _ (mP _ _ _ _ (by simp;try omega))
 have y:=H9 (WY s S g w.heap.size (w.heap.size+1) (w.heap.size+2) ⟨2,b,0,l⟩ bo c d (Sp.append s.h b a l) _ (h.stay i) ok (q.stay i) t (fun W z f _ B=>Te s.h _ z w.heap.size (w.heap.size+1) (w.heap.size+2) b a bo c d l W B ok.h (j W f) (k W f) (m W f) ((q.stay i).stay f) t x));have C:=H9 i;have G:∀(u:Fn) (first n:Array Value) (w:X),(Instr.makeFunc u first n).run prog w=.ok (.func u first n) w:=fun _ _ _ _=>rfl;unfold Sr.append;generalize Sr.write s _ _=r at *;clear h ok i j k m q t;go_enter func130,ntmps130;go_wp2_with fail
 refine y.o.mono ?_;intro e H v;have D:=H9 (jg.from_ C.o v);obtain⟨rfl,_,_⟩:=v;go_wp2;go_ret;exact D.o
end
structure Xa (S:Nat->Prop)(w:X)(g:Nat)(s:Sr.Sh)(r:Sr.Sh×Nat)(e:Ending)(w':X):Prop where
 ret:e=Y (.tuple #[I J (Sr.Dt s r.2),I J (r.2:Int)])
 at_:iH w' (gM S w) g r.1
 turns:Turns S w w'
section
variable {s:Sr.Sh} {S:Nat->Prop} {g:Nat} {w:X}
theorem Ac (h:iH w S g s)(ok:Sr.Ok s)(a:Int)(m:av)(T:m.size<=1000000):
 Calls prog 119 #[Q (M ⟨g,0,U⟩),I J a,V m] w (Xa S w g s (Sr.create s a m)):=by
 have d:Below w.heap.size w ((w.alloc (K #[I J a] 3)).alloc (K #[V m] 9)):=((fI _ _).alloc (aL _) _).alloc (by simp) _;have H:((w.alloc (K #[I J a] 3)).alloc (K #[V m] 9)).cell? ⟨w.heap.size,0,U⟩=M (I J a):=kR _ _ _ _ (mP _ _ _ _ rfl);have e2:((w.alloc (K #[I J a] 3)).alloc (K #[V m] 9)).cell? ⟨w.heap.size+1,0,U⟩=M (V m):=mP _ _ _ _ (by simp);have l:((w.alloc (K #[I J a] 3)).alloc (K #[V m] 9)).heap.size=w.heap.size+2:=by simp
 obtain⟨b,n⟩:∃W,((w.alloc (K #[I J a] 3)).alloc (K #[V m] 9))=W:=⟨_,rfl⟩;rw[n] at d H e2 l;have h2:=h.stay d;obtain⟨gs,gl,ao,ca,P,L⟩:=h2;obtain⟨⟨c0,c1⟩,_⟩:=ql L.row;have hl:=ok.Kl;have HN:=H9 (Iu s.h P gs b L.wE ok.h.Dm (by omega));obtain⟨B,C,hcv,f,q,t⟩:=zk (P:=prog) b m 9 31 5 underlying9 underlying31 underlying5;have u:=then_ d f;have D:=(fI _ C).alloc (aL _) (K #[I J 1,I J (s.h.last+1),I J a,Z (M ⟨b.heap.size,0,U⟩) m.size B] 217);have j:=then_ u D;have k:∀W,Below (C.alloc (K #[I J 1,I J (s.h.last+1),I J a,Z (M ⟨b.heap.size,0,U⟩) m.size B] 217)).heap.size (C.alloc (K #[I J 1,I J (s.h.last+1),I J a,Z (M ⟨b.heap.size,0,U⟩) m.size B] 217)) W->W.cell? ⟨w.heap.size,0,U⟩=M (I J a)∧W.cell? ⟨w.heap.size+1,0,U⟩=M (V m):=fun W G=>by
  have x:Below b.heap.size b W:=then_ f (then_ D G);exact⟨(x.cell (p:=⟨w.heap.size,0,U⟩) (show w.heap.size<b.heap.size by omega)).trans H,(x.cell (p:=⟨w.heap.size+1,0,U⟩) (show w.heap.size+1<b.heap.size by omega)).trans e2⟩
 have HC:=H9 (WZ s S g w.heap.size (w.heap.size+1) ⟨1,s.h.last+1,a,m.data.toList⟩ (M ⟨b.heap.size,0,U⟩) m.size B (Sr.made s.h a m) _ (h.stay j) ok (t.stay D) (by simp) (fun W g' G _ hS=>Tf s.h _ g' w.heap.size (w.heap.size+1) a m W hS ok.h (k W G).1 (k W G).2 (by omega) T));have HB:=H9 j;have UK:∀(fn:Fn) (first y:Array Value) (w:X),(Instr.makeFunc fn first y).run prog w=.ok (.func fn first y) w:=fun _ _ _ _=>rfl;have d1:C.cell? ⟨w.heap.size,0,U⟩=M (I J a):=(f.cell (p:=⟨w.heap.size,0,U⟩) (show w.heap.size<b.heap.size by omega)).trans H;unfold Sr.create;generalize Sr.write s _ _=r at *;have Li:Hid (∀c:Nat,c=0->Sr.Dt s c=s.h.last+1):=fun c i=>by unfold Sr.Dt;rw[if_pos i]
 have N:Hid (∀c:Nat,c≠0->Sr.Dt s c=0):=fun c i=>by unfold Sr.Dt;rw[if_neg i]
 have Jf:=H9 q;clear h ok d u j D k L l q t f c1 T;generalize O:s.h.last=la at *;clear O;go_enter func119,ntmps119;go_wp2_with fail
 clear n;refine HN.o.mono ?_;rintro e w1 ⟨rfl,hw⟩;rw[hw];clear hw;go_wp2_with fail
 refine HC.o.mono ?_;intro e w2 hd;have hD:=jg.from_ HB.o hd;have z:=H9 hD;clear hD;obtain⟨rfl,_,_⟩:=hd;by_cases i:r.2=0
 . rw[i];go_wp2;go_ret2;exact⟨by rw[Li.o _ i,i];rfl,z.o.at_,z.o.turns⟩
 . have hc':¬(r.2:Int)=0:=by omega
   have HX:Hid (∀v,v=(r.2:Int)->Xa S w g s r (Y (.tuple #[I J 0,I J v])) w2):=fun v hv=>⟨by rw[N.o _ i,hv],z.o.at_,z.o.turns⟩;clear i z;generalize (r.2:Int)=rc at *;go_wp2;go_ret2;exact HX.o _ rfl
end
theorem jv.anew {w:X}{g:Nat}{f ln:Value}{fo:aj}{nf gL:Nat}{e pl c d:Int}(h:jv w g f e ln fo nf gL pl c d)(a b:Int):
 jv (((((((w.setCell ⟨g,0,U⟩ (Q U)).setCell ⟨g,1,U⟩ (I J 0)).setCell ⟨g,2,U⟩ (Q U)).setCell ⟨g,3,U⟩ (Z U 0 0)).setCell ⟨g,4,U⟩ (I J a)).setCell ⟨g,5,U⟩ (I J 0)).setCell ⟨g,6,U⟩ (I J b)) g (Q U) 0 (Q U) U 0 0 a 0 b ∧
 Turns (fun k=>k=g) w (((((((w.setCell ⟨g,0,U⟩ (Q U)).setCell ⟨g,1,U⟩ (I J 0)).setCell ⟨g,2,U⟩ (Q U)).setCell ⟨g,3,U⟩ (Z U 0 0)).setCell ⟨g,4,U⟩ (I J a)).setCell ⟨g,5,U⟩ (I J 0)).setCell ⟨g,6,U⟩ (I J b)):=by
 have i:jv (w.setCell ⟨g,0,U⟩ (Q U)) g (Q U) e ln fo nf gL pl c d:=⟨by rw[fM w g 0 _ _ _ h.row];rfl⟩;have j:=i.s1 0;have l:jv (((w.setCell ⟨g,0,U⟩ (Q U)).setCell ⟨g,1,U⟩ (I J 0)).setCell ⟨g,2,U⟩ (Q U)) g (Q U) 0 (Q U) fo nf gL pl c d:=⟨by rw[fM _ g 2 _ _ _ j.row];rfl⟩;have m:=((l.s3 U 0 0).s4 a).s5 0;refine⟨⟨by rw[fM _ g 6 _ _ _ m.row];rfl⟩,gZ g [Q U,I J 0,Q U,Z U 0 0,I J a,I J 0,I J b] 0 w⟩
theorem za (w:X)(S So:Nat->Prop)(g gt:Nat)(m:au)(s:Fm.St)(c:UInt8)(t:Fm.Td)(h:ko w S g m s)(z:Fm.live s)(hp:s.place=1∨s.place=2∨s.place=3∨s.place=4)(hO:nk w So gt t)(hd:∀k,S k->¬So k)(hes:t.es.length<=80000):
 Calls prog 270 #[Q (M ⟨g,0,U⟩),Q (M ⟨gt,0,U⟩),I .u8 c.toNat] w fun e w'=>ZL w S So g gt m s c t e w':=by
 have C:=Pair.start h hO hd;have hN:=Fm.RD m hp z.1 c;have l:=H9 (Xg w s.place c hp);cases C.fm with
 | dead G B row=>exact absurd z G
 | live G B gs gl p fo gL D row inn =>
   have n:=H9 C;have H:=H9 hN;have nW:=H9 row;have HL:=H9 z;have L:=H9 B
   have c4:=row.c4;have f4:=row.fz 4
   have hlt:=row.lt;have q:¬So g:=hd g B.1;have N:=H9 q;clear inn row G h hO hd hN C z B q;generalize O:(Fm.turn s.place c).1=x at *;generalize P:(Fm.turn s.place c).2=y at *;by_cases d:y=0
   . subst d;by_cases f:x=6
     . subst f;have a:=nW.o.s4 6;have c0':=a.c0;have c1':=a.c1;have c2':=a.c2;have c3':=a.c3;have c4':=a.c4;have c5':=a.c5;have c6':=a.c6
       have f0':=a.fz 0;have f1':=a.fz 1;have f2':=a.fz 2;have f3':=a.fz 3;have f4':=a.fz 4;have f5':=a.fz 5;have f6':=a.fz 6
       obtain⟨UL,T⟩:=a.anew 6 0;have W:=H9 UL;have HT7:=H9 T
       have hT:Turns (fun k=>S k∧k<w.heap.size) w _:=((jv.set w g 4 (I J 6)).trans T (fun _ e _=>e)).mono (S':=fun k=>S k∧k<w.heap.size) (fun k e=>by subst e;exact L.o);have b:ko _ (fun k=>S k∧k<w.heap.size) g m Fm.done:=.dead Fm.RB L.o W.o;have i:=n.o.form b hT;have TD:=H9 i;have Tt:=H9 (xU _ _ gt t 3 ⟨#[]⟩ ⟨#[]⟩ ⟨#[]⟩ 0 i.td (by decide) (by omega));clear a UL T hT b i;go_enter func270,ntmps270;go_wp2_with fail
       refine l.o.mono ?_;rintro e j ⟨rfl,r⟩;subst r;go_wp2_with fail
       refine Tt.o.mono ?_;rintro e w5 ⟨rfl,Ez,xP⟩;have HW:=H9 (TD.o.told Ez xP).1;clear Ez xP;go_wp2;go_ret;refine .ok rfl ?_;rw[H.o];exact HW.o
     . have t6:((x:Int)==6)=F:=by rw[aR];omega
       obtain⟨u,v⟩:=n.o.fm.move HL.o x f;have HW:=H9 (n.o.form u v).went;clear u v;go_enter func270,ntmps270;go_wp2_with fail
       refine l.o.mono ?_;rintro e j ⟨rfl,r⟩;subst r;clear l O P;go_wp2;go_ret;refine .ok rfl ?_;rw[H.o,if_neg (fun e=>e rfl),if_neg f];exact HW.o
   . have hx0:x≠6:=fun e=>by
      have:=Fm.RF s.place c;rw[O,P] at this;exact d (this e)
     have t6:((x:Int)==6)=F:=by rw[aR];omega
     have HR4:=H9 (nW.o.s4 (x:Int));go_enter func270,ntmps270;go_wp2_with fail
     refine l.o.mono ?_;rintro e j ⟨rfl,r⟩;subst r;clear l O P hx0;have HT:Hid (Turns (fun k=>S k∧k<j.heap.size) j (j.setCell ⟨g,4,U⟩ (I J (x:Int)))):=(jv.set j g 4 _).mono (fun k e=>by subst e;exact L.o);go_wp2;go_ret;refine .fail y d (by rw[H.o,if_pos d]) rfl ?_;exact .mk _ _ _ _ _ _ _ _ _ _ HR4.o (n.o.td.turns HT.o (fun k e e2=>n.o.apart k e2.1 e.1)) (fun e=>N.o e.1) (fun k e=>A e.1) (HT.o.mono (fun k e=>A e.1))
inductive acr (w:X)(g:Nat)(fo:aj)(nf:Nat)(fs:List Rq.Fl)(t:au)(e:Ending)(w':X):Prop
 | many (h:nf=16) (he:e=Y (I J 8)) (hw:w'=w)
 | bad (h:nf≠16) (c:Nat) (hc:c≠0) (hd:(Fd.of t).code=c) (he:e=Y (I J (c:Int))) (hB:Below w.heap.size w w')
 | ok (h:nf≠16) (hd:(Fd.of t).code=0) (w3:X) (g3 gW:Nat) (he:e=Y (I J 0)) (hw:w'=w3.setCell ⟨g,3,U⟩ (Z (M ⟨g3,0,U⟩) (nf+1) gW)) (hO:gU w3 0 111 2 (M ⟨g3,0,U⟩) gW (nf+1) (gT (Rq.nu (fs++[((Fd.of t).name,(Fd.of t).value)])))) (hT:Turns (fun k=>gK fo=M k) w w3) (hat:gK fo=M g3∨w.heap.size<=g3)
theorem OX (w:X)(g:Nat)(fo:aj)(nf gL:Nat)(fs:List Rq.Fl)(t:av)(c3:w.cell? ⟨g,3,U⟩=M (Z fo nf gL))(f3:w.frozen? ⟨g,3,U⟩=F)(B:gK fo≠M g)(ho:gU w 0 111 2 fo gL nf (gT (Rq.nu fs)))(hn:nf<=16)(ht:t.size<=2000):
 Calls prog 294 #[Q (M ⟨g,2,U⟩),V t] w fun e w'=>acr w g fo nf fs t.data.toList e w':=by
 by_cases f:nf=16
 . have t16:((nf:Int)==16)=true:=by rw[f];rfl
   have l:=H9 f;clear f ho;go_enter func294,ntmps294;go_wp2;go_ret;exact .many l.o rfl rfl
 . have t16:((nf:Int)==16)=F:=by rw[aR];omega
   have l:=H9 f;have C:=H9 (xI t w ht);unfold Fd.val at C;have p:=fZ w _ c3;clear f;by_cases D:(Fd.of t.data.toList).code=0
   . rw[D] at C;obtain⟨c,q⟩:∃c:av,(⟨(Fd.of t.data.toList).name.toArray⟩:av)=c:=⟨_,rfl⟩;obtain⟨d,r⟩:∃d:av,(⟨(Fd.of t.data.toList).value.toArray⟩:av)=d:=⟨_,rfl⟩;rw[q,r] at C;have HXs:Hid (gT (Rq.nu fs)++[V c,V d]=gT (Rq.nu (fs++[((Fd.of t.data.toList).name,(Fd.of t.data.toList).value)]))):=by
      unfold Hid;rw[Rq.yO,qA,<-q,<-r];rfl
     have HC:=H9 D;have hK:∀W,Below w.heap.size w W->W.cell? ⟨g,3,U⟩=M (Z fo nf gL):=fun W G=>(G.cell p).trans c3;have H:∀W W3,Below w.heap.size w W->W.grownBy W3 (Value.slice fo nf gL).ownBlock->W3.cell? ⟨g,3,U⟩=M (Z fo nf gL)∧W3.frozen? ⟨g,3,U⟩=F:=fun W W3 G z=>by
      rw[gN] at z;have hb:W.heap[g]? = w.heap[g]?:=G.block g p;refine⟨z.cell (hK W G) (fun e=>B e.symm),?_⟩;rw[gG (a:=⟨g,3,U⟩) ((z.block g (cu p G.size) (fun e=>B e.symm)).trans hb)];exact f3
     have HK:=H9 hK;have Yq:=H9 H
     have HO:=H9 ho;obtain⟨i0,L,N,O,P⟩:=info_parts rT;have Hi:=H9 L;have kJ:=H9 N;have kG:=H9 O;have kK:=H9 P
     have HN:Hid (nf+1<=maxLen∧(nf+1)*32<=140737488355328):=⟨by unfold maxLen;omega,by omega⟩;clear L N O P ho hK H D q r;go_enter func294,ntmps294;go_wp2_with fail
     refine C.o.mono ?_;rintro e m ⟨rfl,s⟩;have n:Below w.heap.size w (m.alloc (K #[V c,V d] 111)):=s.trans ((fI _ _).alloc s.size _);have v:Below w.heap.size w ((m.alloc (K #[V c,V d] 111)).alloc (K #[V c,V d] 111)):=n.trans ((fI _ _).alloc n.size _);have x:Below w.heap.size w ((m.alloc (K #[V c,V d] 111)).alloc (K #[V c,V d] 111)).drew:=v.trans ⟨rfl,rfl,rfl,aL _,fun _ _=>rfl⟩;have k3:=HK.o _ n;have j3:=HK.o _ v;have y:=H9 x;have HOw:=H9 (gU.below HO.o x (fun a e=>(HO.o.block a e).2));have UU:Hid (∀j u,([V c,V d]:List Value)[j]? = M u->((m.alloc (K #[V c,V d] 111)).alloc (K #[V c,V d] 111)).drew.cell? (Addr.add ⟨m.heap.size+1,0,U⟩ j)=M u):=fun j u hu=>by
      rw[gH,aZ];show((m.alloc (K #[V c,V d] 111)).alloc (K #[V c,V d] 111)).cell? _=_;rw[World.cell?_alloc_at _ _ _ _ (by simp),dG];exact hu
     have HS:=H9 s.size;clear s n v x c3 f3;go_wp2;go_region_law
      ((refine step_append_lies _ (by rfl) _ _ _ (by rfl) 0 111 i0 (.agg #[V ⟨#[]⟩,V ⟨#[]⟩]) 2 32 underlying66 Hi.o kJ.o kG.o kK.o (by rfl) (by decide) (Z fo nf gL) nf _ (by rfl) HOw.o ⟨m.heap.size+1,0,U⟩ 1 1 [V c,V d] (by rfl) (by rfl) UU.o (fun u hu=>by simp at hu;rcases hu with rfl | rfl <;> rfl) (by decide) HN.o.1 HN.o.2 (ay _) (m.heap.size+2) (by simp) ?_;intro g3 gW w3 i b ku hlt3;have sF:=H9 b;have oC:=H9 i;have Jg:=H9 ku;have q3:=(Yq.o _ _ y.o b).1;have qf:=(Yq.o _ _ y.o b).2;clear b i ku))
     all_goals
      go_wp2;go_ret;have z:=sF.o;have hA:=Jg.o
      rw[gN] at z hA;refine .ok l.o HC.o w3 g3 gW rfl rfl (by rw[<-HXs.o];exact oC.o) ((Turns.of_below y.o).trans (Turns.iY (S:=fun k=>gK fo=M k) z (fun k e=>e)) (fun _ e _=>e)) ?_;rcases hA with e | e
      . exact A e
      . exact R (by have:=HS.o;omega)
   . have tc:(((Fd.of t.data.toList).code:Int)==0)=F:=by rw[aR];omega
     have HC:=H9 D;generalize T:(Fd.of t.data.toList).code=cc at *;clear D ho;go_enter func294,ntmps294;go_wp2_with fail
     refine C.o.mono ?_;rintro e m ⟨rfl,s⟩;have HCc:=H9 T;have F3:=H9 (then_ s ((fI _ _).alloc (aL _) (K #[V ⟨(Fd.of t.data.toList).name.toArray⟩,V ⟨(Fd.of t.data.toList).value.toArray⟩] 111)));clear T s;go_wp2;go_ret;exact .bad l.o cc HC.o HCc.o rfl F3.o
inductive Ci (w:X)(S So:Nat->Prop)(g gt:Nat)(m:au)(s:Fm.St)(tx:au)(t:Fm.Td)(e:Ending)(w':X):Prop
 | ok (he:e=Y (I J 0)) (h:yZ w S So g gt m (Fm.line s tx).1 (Fm.tells t (Fm.line s tx).2) w')
 | fail (k:Nat) (hk:k≠0) (hN:Fm.line s tx=Fm.fails k) (he:e=Y (I J (k:Int))) (h:OW w S So g gt t w')
theorem OZ {s:Fm.St}{p:Fm.YT}(b:Fm.part s.fields=.inr p)(a:s.parts≠12):Fm.line s []=({ s with fields:=[],parts:=s.parts+1,place:=0,held:=2,ahead:=2 },[Fm.Qg p]):=by
 have:=Fm.RG (s:=s) b a;exact this
theorem TJ {s:Fm.St}{c:Nat}(a:Fm.part s.fields=.inl c):Fm.line s []=Fm.fails c:=by
 unfold Fm.line;rw[if_neg (fun h=>h rfl),a]
theorem TK {s:Fm.St}{p:Fm.YT}(b:Fm.part s.fields=.inr p)(a:s.parts=12):Fm.line s []=Fm.fails 8:=by
 unfold Fm.line;rw[if_neg (fun h=>h rfl),b];simp only;rw[if_pos a]
theorem TL (w:X)(S So:Nat->Prop)(g gt:Nat)(m:au)(s:Fm.St)(t:Fm.Td)(h:ko w S g m s)(hl:Fm.live s)(h0:s.held=0)(hm:s.fields.length<=16)(G:∀f∈s.fields,f.1.length<=200∧f.2.length<=200)(hpt:s.parts<=12)(hO:nk w So gt t)(hd:∀k,S k->¬So k)(h2:m.take 2=[13,10])(h3:3<=m.length)(hL:m.length<=1000)(hes:t.es.length<=80000):
 Calls prog 295 #[Q (M ⟨g,0,U⟩),Q (M ⟨gt,0,U⟩)] w fun e w'=>Ci w S So g gt m s [] t e w':=by
 have hP:=Pair.start h hO hd;cases hP.fm with
 | dead h2 me row=>exact absurd hl h2
 | live hl2 me H gl p fo gL D row inn =>
   have v:Turns (fun k=>k=g) w (w.setCell ⟨g,3,U⟩ (Z U 0 0)):=jv.set w g 3 _;have r1:=row.s3 U 0 0;have i0:tJ w (fun k=>(S k∧k<w.heap.size)∧k≠g) m { s with fields:=[] } H gl p U 0 D:=⟨inn.sk,inn.Ad,inn.OT,inn.ln,gU.nil _ _ _ _,fun a e=>(by cases e)⟩;have i1:=i0.turns v (fun k e=>e.2);have hV:=inn.own.nP.turns v (fun a e=>(inn.fC a e).1.2);have hne:g≠H:=fun e=>inn.Ad.1.2 e.symm;have Db:=H9 (Tz w g fo s.fields.length gL row.c3 (row.fz 3));have u:=H9 (Xn (Rq.nu s.fields) fo gL s.fields.length _ hV (Rq.kU _) (by omega) (fun q hq=>by
    unfold Rq.nu at hq;obtain⟨f,hf,rfl⟩:=aM.1 hq;have:=G f hf;refine⟨?_,?_⟩
    . show f.1.toArray.size<=_;rw[bL];omega
    . show f.2.toArray.size<=_;rw[bL];omega))
   rw[Rq.Jl] at u;have HP:=H9 hP;have z:=H9 r1;have L:=H9 i1;have B:=H9 v;have ZK:=H9 me;have HLv:=H9 hl;have HH0:=H9 h0
   have hlt:=row.lt;have N:¬So g:=hd g me.1;have O:=H9 N;have HM:Hid (m.take 2=[13,10]∧3<=m.length∧m.length<=1000):=⟨h2,h3,hL⟩;have P:Hid (∀(y:X),Below (w.setCell ⟨g,3,U⟩ (Z U 0 0)).heap.size (w.setCell ⟨g,3,U⟩ (Z U 0 0)) y->OW w S So g gt t y):=fun y hb=>by
    have hTd:=(HP.o.td.turns B.o (fun k e e2=>by subst e2;exact O.o e.1)).stay hb;exact .mk _ _ _ _ _ _ _ _ _ _ (z.o.stay hb) hTd (fun e=>O.o e.1) (fun k e=>A e.1) ((B.o.mono (S':=fun k=>S k∨So k) (fun k e=>by subst e;exact A ZK.o.1)).trans (Turns.of_below hb) (fun _ e _=>e))
   clear hV inn i0 i1 r1 row hP h hO hd h0 hl hl2 me v h2 h3 hL N hm G;cases d:Fm.part s.fields with
   | inl k =>
     have hk:=Fm.RH d;have T:=H9 (TJ d);have HK:=H9 hk;rw[d] at u;unfold Fm.Mk at u;simp only at u;have tc:((k:Int) != 0)=true:=by rw[cO];omega
     clear d hk;go_enter func295,ntmps295;go_wp2_with fail
     refine Db.o.mono ?_;rintro e w1 ⟨rfl,W⟩;subst W;go_wp2_with fail
     refine u.o.mono ?_;rintro e n ⟨rfl,i⟩;have HF:=H9 (P.o _ (then_ i ((fI _ _).alloc (aL _) (K #[V ⟨#[]⟩,V ⟨#[]⟩,V ⟨#[]⟩,Z U 0 0] 70))));clear i;go_wp2;go_ret;exact .fail k HK.o T.o rfl HF.o
   | inr c =>
     rw[d] at u;unfold Fm.Mk at u;simp only at u;by_cases x:s.parts=12
     . have T:=H9 (TK d x);have t12:((s.parts:Int)==12)=true:=by rw[x];rfl
       clear d x;go_enter func295,ntmps295;go_wp2_with fail
       refine Db.o.mono ?_;rintro e w1 ⟨rfl,W⟩;subst W;go_wp2_with fail
       refine u.o.mono ?_;rintro e n ⟨rfl,i⟩;have j:=then_ i ((fI _ _).alloc (aL _) (K #[V ⟨c.name.toArray⟩,V ⟨c.file.toArray⟩,V ⟨c.type.toArray⟩,Z U 0 0] 70));have HF:=H9 (P.o _ j);have c5:=(z.o.stay j).c5;clear i j;go_wp2;go_ret;exact .fail 8 (by decide) T.o rfl HF.o
     . have T:=H9 (OZ d x);have t12:((s.parts:Int)==12)=F:=by rw[aR];omega
       clear d;go_enter func295,ntmps295;go_wp2_with fail
       refine Db.o.mono ?_;rintro e w1 ⟨rfl,W⟩;subst W;go_wp2_with fail
       refine u.o.mono ?_;rintro e n ⟨rfl,i⟩;have j:=then_ i ((fI _ _).alloc (aL _) (K #[V ⟨c.name.toArray⟩,V ⟨c.file.toArray⟩,V ⟨c.type.toArray⟩,Z U 0 0] 70));have r:=fH n (K #[V ⟨c.name.toArray⟩,V ⟨c.file.toArray⟩,V ⟨c.type.toArray⟩,Z U 0 0] 70);have hw2:w.heap.size<=n.heap.size:=by have:=i.size;simpa using this
       go_upto_region 2 with fail
       generalize hW2:(n.alloc (K #[V ⟨c.name.toArray⟩,V ⟨c.file.toArray⟩,V ⟨c.type.toArray⟩,Z U 0 0] 70))=y at *;have C:=z.o.stay j;have r3:=(C.s5 ((s.parts:Int)+1)).s4 0;have pE:Turns (fun k=>k=g) y ((y.setCell ⟨g,5,U⟩ (I J ((s.parts:Int)+1))).setCell ⟨g,4,U⟩ (I J 0)):=(jv.set y g 5 _).trans (jv.set _ g 4 _) (fun _ e _=>e);have i3:=(L.o.stay j).turns pE (fun k e=>e.2);have c5:=C.c5;have f5:=C.fz 5
       have c4:=(C.s5 ((s.parts:Int)+1)).c4;have f4:=(C.s5 ((s.parts:Int)+1)).fz 4
       have hSk:mQ ((y.setCell ⟨g,5,U⟩ (I J ((s.parts:Int)+1))).setCell ⟨g,4,U⟩ (I J 0)) H m 0 p:=by have:=i3.sk;rw[show({ s with fields:=[] }:Fm.St).held=0 from HH0.o] at this;exact this
       have Zz:=H9 (yB _ g H m p _ r3.c0 r3.c1 (r3.fz 1) hne hSk HM.o.1 HM.o.2.1 (by have:=HM.o.2.2;omega));have HB3:=H9 j;have aeG:=H9 r;have HR3:=H9 r3;have HT3:=H9 pE;have HI3:=H9 i3
       clear i j r C r3 pE i3 hSk;go_wp2_with fail
       refine Zz.o.mono ?_;rintro e l ⟨w4,rfl,JD,hS5,Lu⟩;obtain⟨r5,t5⟩:=ko.sought (s:={ s with fields:=[],parts:=s.parts+1,place:=0 }) (a2:=2) (S:=fun k=>S k∧k<w.heap.size) ⟨HLv.o.1,by show(0:Nat)≠6;decide⟩ ZK.o HR3.o (HI3.o.as rfl rfl rfl) hS5 Lu;have e5:w4.setCell ⟨g,1,U⟩ (I J ((2:Nat):Int))=l:=JD.symm;rw[e5] at r5 t5;have hgs:H<w.heap.size:=by have:=L.o.sk.lt;simpa using this
       have CP:∀{a b:X},Turns (fun k=>k=g) a b->Turns (fun k=>S k∧k<w.heap.size) a b:=fun hh=>hh.mono (fun k e=>by subst e;exact ZK.o);have aa1:Turns (fun k=>S k∧k<w.heap.size) w l:=(((CP B.o).trans (Turns.of_below HB3.o) (fun _ e _=>e)).trans (CP HT3.o) (fun _ e _=>e)).trans t5 (fun _ e _=>e);have M9:=HP.o.form r5 aa1;have q1:=HT3.o.row aeG.o (fun e=>by omega);have q2:w4.heap[n.heap.size]? = _:=(Lu.block _ (aK.1 q1).1 (fun e=>by injection e with e;omega)).trans q1;have q3:l.heap[n.heap.size]? = M (K #[V ⟨c.name.toArray⟩,V ⟨c.file.toArray⟩,V ⟨c.type.toArray⟩,Z U 0 0] 70 (0,0)):=by
        rw[<-e5];exact(jv.set w4 g 1 _).row q2 (fun e=>by omega)
       have p0:l.cell? ⟨n.heap.size,0,U⟩=M (V ⟨c.name.toArray⟩):=fJ l _ 0 _ _ _ q3;have p1:l.cell? ⟨n.heap.size,1,U⟩=M (V ⟨c.file.toArray⟩):=fJ l _ 1 _ _ _ q3;have p2:l.cell? ⟨n.heap.size,2,U⟩=M (V ⟨c.type.toArray⟩):=fJ l _ 2 _ _ _ q3;have p3:l.cell? ⟨n.heap.size,3,U⟩=M (Z U 0 0):=fJ l _ 3 _ _ _ q3;have Tt:=H9 (xU l _ gt t 5 ⟨c.name.toArray⟩ ⟨c.file.toArray⟩ ⟨c.type.toArray⟩ 0 M9.td (by decide) (by omega));have HP5:=H9 M9;clear r5 t5 e5 aa1 M9 q1 q2 q3 CP JD hS5 Lu hgs;go_wp2_with fail
       refine Tt.o.mono ?_;rintro e w6 ⟨rfl,vH,qY⟩;have HW:=H9 (HP5.o.told vH qY).1;clear vH qY;go_wp2;go_ret;refine .ok rfl ?_;rw[T.o];exact HW.o
theorem OW.then_ {w0 w w':X}{S So f j:Nat->Prop}{g gt:Nat}{l:Fm.Td}(a:∀k,f k->S k∨w0.heap.size<=k)(m:∀k,j k->So k∨w0.heap.size<=k)(n:Turns (fun k=>S k∨So k) w0 w)(o:OW w f j g gt l w'):OW w0 S So g gt l w':=by
 obtain⟨b,p,q,r,pl,s,t,u,v,x,y,c,d,z,B⟩:=o;have C:=n.size;refine .mk b p q r pl s t u v x y c d (fun k e=>?_) (n.trans B (fun i e D=>?_))
 . rcases z k e with e | e
   . exact m k e
   . exact R (by omega)
 . rcases e with e | e
   . rcases a i e with e | e
     . exact A e
     . omega
   . rcases m i e with e | e
     . exact R e
     . omega
theorem Ci.took {w0 w w':X}{S So d f:Nat->Prop}{g gt:Nat}{m:au}{s i:Fm.St}{c:UInt8}{j:au}{t:Fm.Td}{e:Ending}(l:Fm.next m s c=Fm.line i j)(a:∀k,d k->S k∨w0.heap.size<=k)(n:∀k,f k->So k∨w0.heap.size<=k)(o:Turns (fun k=>S k∨So k) w0 w)(h:Ci w d f g gt m i j t e w'):ZL w0 S So g gt m s c t e w':=by
 cases h with
 | ok b h=>exact .ok b (by rw[l];exact yZ.then_ a n o h)
 | fail k p q b h=>exact .fail k p (l.trans q) b (OW.then_ a n o h)
theorem F8 (w:X)(S So:Nat->Prop)(g gt:Nat)(m:au)(s:Fm.St)(d:au)(t:Fm.Td)(h:ko w S g m s)(hl:Fm.live s)(hm:s.fields.length<=16)(hO:nk w So gt t)(hd:∀k,S k->¬So k)(P:d≠[])(hz:d.length<=200):
 Calls prog 294 #[Q (M ⟨g,2,U⟩),V ⟨d.toArray⟩] w fun e w'=>Ci w S So g gt m s d t e w':=by
 have N:=Pair.start h hO hd;cases N.fm with
 | dead h2 O row=>exact absurd hl h2
 | live hl2 O T W p z gL D row inn =>
   have v:¬So g:=hd g O.1;refine(OX w g z s.fields.length gL s.fields ⟨d.toArray⟩ row.c3 (row.fz 3) (fun e=>?_) inn.own hm (by show d.toArray.size<=_;rw[bL];omega)).mono ?_
   . cases z with
     | none=>cases e
     | some a=>injection e with e;exact(inn.fC a rfl).1.2 e
   . intro e w' hF;have B:Fm.line s d=if s.fields.length=16 then Fm.fails 8 else if (Fd.of d).code≠0 then Fm.fails (Fd.of d).code else ({ s with fields:=s.fields++[((Fd.of d).name,(Fd.of d).value)] },[]):=by
      unfold Fm.line;rw[if_pos P]
     cases hF with
     | many q G hw =>
       rw[if_pos q] at B;subst hw;exact .fail 8 (by decide) B G (.mk _ _ _ _ _ _ _ _ _ _ row N.td (fun e=>v e.1) (fun k e=>A e.1) (Turns.refl _ _))
     | bad q c hc n G hB =>
       have n:(Fd.of d).code=c:=n;rw[if_neg q,n,if_pos hc] at B;exact .fail c hc B G (.mk _ _ _ _ _ _ _ _ _ _ (row.stay hB) (N.td.stay hB) (fun e=>v e.1) (fun k e=>A e.1) (Turns.of_below hB))
     | ok q n r o x G hw H C y =>
       have n:(Fd.of d).code=0:=n;rw[if_neg q,n,if_neg (fun e=>e rfl)] at B;refine .ok G ?_;rw[B];subst hw;have i:∀k,gK z=M k->∃a,z=M a∧a.block=k:=fun k e=>by
        cases z with
        | none=>cases e
        | some a=>injection e with e;exact⟨a,rfl,e⟩
       have hz3:=C.size;have ET:Turns (fun k=>k=g) r (r.setCell ⟨g,3,U⟩ (Z (M ⟨o,0,U⟩) (s.fields.length+1) x)):=jv.set r g 3 _;have hlt:=row.lt;have r3:=(row.turns C (fun e=>by obtain⟨a,j,l⟩:=i g e;exact(inn.fC a j).1.2 l)).s3 (M ⟨o,0,U⟩) (s.fields.length+1) x;have hg3:o<r.heap.size:=(H.block _ rfl).2;have ail:o≠g:=fun e=>by
        rcases y with f | f
        . obtain⟨a,j,l⟩:=i o f;exact(inn.fC a j).1.2 (l.trans e)
        . omega
       have u:(s.fields++[((Fd.of d).name,(Fd.of d).value)]).length=s.fields.length+1:=by rw[aV];rfl
       have i3:tJ r (fun k=>(S k∧k<w.heap.size∨w.heap.size<=k∧k<r.heap.size)∧k≠g) m { s with fields:=s.fields++[((Fd.of d).name,(Fd.of d).value)] } T W p (M ⟨o,0,U⟩) x (fun k=>D k∧k<w.heap.size):=by
        refine⟨inn.sk.turns C ?_ ?_ ?_,⟨⟨A inn.Ad.1.1,inn.Ad.1.2⟩,⟨A inn.Ad.2.1.1,inn.Ad.2.1.2⟩,fun a e=>⟨A (inn.Ad.2.2 a e).1,(inn.Ad.2.2 a e).2⟩⟩,⟨fun e=>inn.OT.1 e.1,fun e=>inn.OT.2.1 e.1,fun a e f=>inn.OT.2.2 a e f.1⟩,?_,?_,?_⟩
        . intro e;obtain⟨a,j,l⟩:=i _ e;exact(inn.fs a j).1 l
        . intro e;obtain⟨a,j,l⟩:=i _ e;exact(inn.fs a j).2.1 l
        . intro b hb e;obtain⟨a,j,l⟩:=i _ e;exact(inn.fs a j).2.2 b hb l
        . have:=(inn.ln.mono (S':=fun k=>((S k∧k<w.heap.size∨w.heap.size<=k∧k<r.heap.size)∧k≠g)∧(D k∧k<w.heap.size)) (fun k hk e=>⟨⟨A e.1.1,e.1.2⟩,e.2,hk⟩));exact this.turns C (fun k e f=>by obtain⟨a,j,l⟩:=i _ f;exact(inn.fC a j).2 (l▸e.2.1))
        . show gU r 0 111 2 (M ⟨o,0,U⟩) x (s.fields++[((Fd.of d).name,(Fd.of d).value)]).length _;rw[u];exact H
        . intro a e;injection e with e;subst e;refine⟨⟨?_,ail⟩,fun f=>?_⟩
          . rcases y with f | f
            . obtain⟨a,j,l⟩:=i o f;exact A (l▸(inn.fC a j).1.1)
            . exact R ⟨f,hg3⟩
          . rcases y with e3 | e3
            . obtain⟨a,j,l⟩:=i o e3;exact(inn.fC a j).2 (l▸f.1)
            . have h9:o<w.heap.size:=f.2;omega
       have i4:=i3.turns ET (fun k e=>e.2);have r4:jv (r.setCell ⟨g,3,U⟩ (Z (M ⟨o,0,U⟩) (s.fields.length+1) x)) g (Q (M ⟨T,0,U⟩)) (s.ahead:Int) (Q (M ⟨W,0,U⟩)) (M ⟨o,0,U⟩) (s.fields++[((Fd.of d).name,(Fd.of d).value)]).length x (s.place:Int) (s.parts:Int) (s.code:Int):=by rw[u];exact r3
       have L:∀k,gK z=M k->S k∧k<w.heap.size:=fun k e=>by obtain⟨a,j,l⟩:=i k e;exact l▸(inn.fC a j).1.1
       refine .mk (fun k=>S k∧k<w.heap.size∨w.heap.size<=k∧k<r.heap.size) (fun k=>So k∧k<w.heap.size) (.live (s:={ s with fields:=s.fields++[((Fd.of d).name,(Fd.of d).value)] }) hl (A O) T W p _ x _ r4 i4) ((N.td.turns C (fun k e f=>hd k (L k f).1 e.1)).turns ET (fun k e f=>by subst f;exact v e.1)) (fun k e f=>?_) (fun k e=>?_) (fun k e=>A e.1) ?_
       . rcases e with e | e
         . exact hd k e.1 f.1
         . have:=f.2;omega
       . rcases e with e | e
         . exact A e.1
         . exact R e.1
       . exact(C.mono (S':=fun k=>S k∨So k) (fun k e=>A (L k e).1)).trans (ET.mono (S':=fun k=>S k∨So k) (fun k e=>by subst e;exact A O.1)) (fun _ e _=>e)
theorem ko.lined {w f:X}{S:Nat->Prop}{g gs i:Nat}{m:au}{s:Fm.St}{p:OO}{fo:aj}{gL:Nat}{D:Nat->Prop}{d:Ln.St}(n:Fm.live s)(o:S g)(b:∀k,S k->k<w.heap.size)(row:jv w g (Q (M ⟨gs,0,U⟩)) (s.ahead:Int) (Q (M ⟨i,0,U⟩)) fo s.fields.length gL (s.place:Int) (s.parts:Int) (s.code:Int))(inn:tJ w (fun k=>S k∧k≠g) m s gs i p fo gL D)
 (q:iy f (gM (fun k=>(S k∧k≠g)∧D k) w) i d) (j:Turns (fun k=>(S k∧k≠g)∧D k) w f):ko f (fun k=>S k∨w.heap.size<=k∧k<f.heap.size) g m { s with ln:=d }:=by
 have r:=row.lt;refine .live n (A o) gs i p fo gL (fun k=>D k∧k<w.heap.size∨w.heap.size<=k) (row.turns j (fun e=>e.1.2 rfl)) ⟨inn.sk.turns j (fun e=>inn.OT.1 e.2) (fun e=>inn.OT.2.1 e.2) (fun a e c=>inn.OT.2.2 a e c.2),⟨⟨A inn.Ad.1.1,inn.Ad.1.2⟩,⟨A inn.Ad.2.1.1,inn.Ad.2.1.2⟩,fun a e=>⟨A (inn.Ad.2.2 a e).1,(inn.Ad.2.2 a e).2⟩⟩,⟨?_,?_,?_⟩,q.mono (fun k t e=>?_),inn.own.turns j (fun a e c=>(inn.fC a e).2 c.2),fun a e=>⟨⟨A (inn.fC a e).1.1,(inn.fC a e).1.2⟩,?_⟩⟩
 . intro e;rcases e with e | e
   . exact inn.OT.1 e.1
   . have:=b _ inn.Ad.1.1;omega
 . intro e;rcases e with e | e
   . exact inn.OT.2.1 e.1
   . have:=b _ inn.Ad.2.1.1;omega
 . intro a l e;rcases e with e | e
   . exact inn.OT.2.2 a l e.1
   . have:=b _ (inn.Ad.2.2 a l).1;omega
 . rcases e with e | e
   . exact⟨⟨A e.1.1,e.1.2⟩,A ⟨e.2,b k e.1.1⟩⟩
   . exact⟨⟨R ⟨e,t⟩,by omega⟩,R e⟩
 . intro c;rcases c with c | c
   . exact(inn.fC a e).2 c.1
   . have:=b _ (inn.fC a e).1.1;omega
theorem JJ (w:X)(S So:Nat->Prop)(g gt:Nat)(m:au)(s:Fm.St)(c:UInt8)(t:Fm.Td)(h:ko w S g m s)(z:Fm.live s)(O:s.place=5)(B:Fm.Good m s)(hO:nk w So gt t)(hd:∀k,S k->¬So k)(P:m.take 2=[13,10])(h3:3<=m.length)(hL:m.length<=1000)(hes:t.es.length<=80000):
 Calls prog 269 #[Q (M ⟨g,0,U⟩),Q (M ⟨gt,0,U⟩),I .u8 c.toNat] w fun e w'=>ZL w S So g gt m s c t e w':=by
 have T:=Pair.start h hO hd;have W:=Fm.RA m O z.1 c;cases T.fm with
 | dead P me row=>exact absurd z P
 | live hl2 me gs gl p fo gL D row inn =>
   have q:=H9 (pq w _ gl s.ln c inn.ln B.ln.short);unfold Ln.fed at q;have c2:=row.c2;have HP:=H9 T;have r:=H9 W;have nW:=H9 row
   have C:¬So g:=hd g me.1;have HGo:=H9 C;have G:∀a,iy a (gM (fun k=>((S k∧k<w.heap.size)∧k≠g)∧D k) w) gl (Ln.next s.ln c)->Turns (fun k=>((S k∧k<w.heap.size)∧k≠g)∧D k) w a->ko a (fun k=>(S k∧k<w.heap.size)∨w.heap.size<=k∧k<a.heap.size) g m { s with ln:=Ln.next s.ln c }∧nk a (fun k=>So k∧k<w.heap.size) gt t∧Turns (fun k=>S k∨So k) w a:=fun a d b =>
    ⟨ko.lined z me (fun k e=>e.2) row inn d b,T.td.turns b (fun k e e2=>hd k e2.1.1.1 e.1),b.mono (fun k e=>A e.1.1.1)⟩
   have ZO:=H9 G;have HD:=H9 hd;have f:∀a:X,∀k,((S k∧k<w.heap.size)∨w.heap.size<=k∧k<a.heap.size)->¬(So k∧k<w.heap.size):=fun a k e e2=>by
    rcases e with e | e
    . exact hd k e.1 e2.1
    . omega
   have M8:=H9 f;have H:=H9 B;have L:=H9 z;have HPl:=H9 O;have HM:Hid (m.take 2=[13,10]∧3<=m.length∧m.length<=1000):=⟨P,h3,hL⟩
   clear G f inn row T h hO hd hl2 me W C P h3 hL;by_cases l:(Ln.next s.ln c).code=0
   . have tc:(((Ln.next s.ln c).code:Int) != 0)=F:=by rw[l];rfl
     cases i:Ln.ends s.ln c with
     | false =>
       rw[i] at q r;rw[if_neg (fun e=>e l),if_neg (by simp)] at r;have HC:=H9 l;generalize u:((Ln.next s.ln c).code:Int)=cd at q tc;have HCd:Hid (cd=0):=by unfold Hid;rw[<-u,l];rfl
       clear l u i;generalize (⟨(Ln.text s.ln c).toArray⟩:av)=tx at *;go_enter func269,ntmps269;go_wp2_with fail
       refine q.o.mono ?_;rintro e a ⟨rfl,d,b⟩;have j:=H9 (ZO.o a d b);clear d b;go_wp2;go_ret;refine .ok (by rw[HCd.o];rfl) ?_;rw[r.o];exact .mk _ _ j.o.1 j.o.2.1 (M8.o a) (fun k e=>e.imp (fun e=>e.1) (fun e=>e.1)) (fun k e=>A e.1) j.o.2.2
     | true =>
       rw[i] at q r;rw[if_neg (fun e=>e l),if_pos rfl] at r;have N:=(Rq.uJ (c:=c) B.ln).1;have Ao:=H9 (Fm.DR i);rw[l] at q;clear tc;by_cases n:Ln.text s.ln c=[]
       . have HB:Hid (∀a,ko a (fun k=>(S k∧k<w.heap.size)∨w.heap.size<=k∧k<a.heap.size) g m { s with ln:=Ln.next s.ln c }->nk a (fun k=>So k∧k<w.heap.size) gt t->Calls prog 295 #[Q (M ⟨g,0,U⟩),Q (M ⟨gt,0,U⟩)] a fun e w'=>Ci a (fun k=>(S k∧k<w.heap.size)∨w.heap.size<=k∧k<a.heap.size) (fun k=>So k∧k<w.heap.size) g gt m { s with ln:=Ln.next s.ln c } [] t e w'):=fun a x qy =>
          TL a _ _ g gt m { s with ln:=Ln.next s.ln c } t x L.o (H.o.idle (by rw[HPl.o];decide)) H.o.many H.o.short H.o.parts qy (M8.o a) HM.o.1 HM.o.2.1 HM.o.2.2 hes
         rw[n] at q r;clear n l i B z O;go_enter func269,ntmps269;go_wp2_with fail
         refine q.o.mono ?_;rintro e a ⟨rfl,d,b⟩;have j:=H9 (ZO.o a d b);clear d b;go_wp2_with fail
         refine(HB.o a j.o.1 j.o.2.1).mono ?_;intro e w2 y;have HK:=H9 (Ci.took (w0:=w) r.o (S:=S) (So:=So) (fun k e=>e.imp (fun e=>e.1) (fun e=>e.1)) (fun k e=>A e.1) j.o.2.2 y);obtain⟨v,hv⟩:∃v,e=Y v:=by cases y with
          | ok i h=>exact⟨_,i⟩
          | fail k hk W i h=>exact⟨_,i⟩
         clear y;subst hv;go_wp2;go_ret;exact HK.o
       . have ttx:((⟨(Ln.text s.ln c).toArray⟩:av).toList==[])=F:=by rw[aR,Lib.toList_data];exact n
         have HB:Hid (∀a,ko a (fun k=>(S k∧k<w.heap.size)∨w.heap.size<=k∧k<a.heap.size) g m { s with ln:=Ln.next s.ln c }->nk a (fun k=>So k∧k<w.heap.size) gt t->Calls prog 294 #[Q (M ⟨g,2,U⟩),V ⟨(Ln.text s.ln c).toArray⟩] a fun e w'=>Ci a (fun k=>(S k∧k<w.heap.size)∨w.heap.size<=k∧k<a.heap.size) (fun k=>So k∧k<w.heap.size) g gt m { s with ln:=Ln.next s.ln c } (Ln.text s.ln c) t e w'):=fun a x qy =>
          F8 a _ _ g gt m { s with ln:=Ln.next s.ln c } (Ln.text s.ln c) t x L.o H.o.many qy (M8.o a) n N
         clear n l i B z O N;generalize (⟨(Ln.text s.ln c).toArray⟩:av)=tx at *;go_enter func269,ntmps269;go_wp2_with fail
         refine q.o.mono ?_;rintro e a ⟨rfl,d,b⟩;have j:=H9 (ZO.o a d b);clear d b;go_wp2_with fail
         refine(HB.o a j.o.1 j.o.2.1).mono ?_;intro e w2 y;have HK:=H9 (Ci.took (w0:=w) r.o (S:=S) (So:=So) (fun k e=>e.imp (fun e=>e.1) (fun e=>e.1)) (fun k e=>A e.1) j.o.2.2 y);obtain⟨v,hv⟩:∃v,e=Y v:=by cases y with
          | ok i h=>exact⟨_,i⟩
          | fail k hk W i h=>exact⟨_,i⟩
         clear y;subst hv;go_wp2;go_ret;exact HK.o
   . have tc:(((Ln.next s.ln c).code:Int) != 0)=true:=by rw[cO];omega
     rw[if_pos l] at r;have HC:=H9 l;generalize u:(Ln.next s.ln c).code=cd at *;clear l;generalize (⟨(Ln.text s.ln c).toArray⟩:av)=tx at *;generalize Ln.ends s.ln c=en at *;go_enter func269,ntmps269;go_wp2_with fail
     refine q.o.mono ?_;rintro e a ⟨rfl,d,b⟩;have j:=H9 (ZO.o a d b);have HR1:=H9 (nW.o.turns b (fun e=>e.1.2 rfl));clear d b u;go_wp2;go_ret;exact .fail cd HC.o r.o rfl (.mk _ _ _ _ _ _ _ _ _ _ HR1.o j.o.2.1 (fun e=>HGo.o e.1) (fun k e=>A e.1) j.o.2.2)
structure TM (m:au)(s:Fm.St):Prop where
 good:Fm.Good m s
 two:m.take 2=[13,10]
 long:5<=m.length
 short:m.length<=100
 ahead:s.ahead<=2
theorem TM.fold {m:au}{s:Fm.St}(h:TM m s)(l:au):TM m (Fm.fold m s l):=⟨h.good.fold (by have:=h.long;omega) l,h.two,h.long,h.short,Fm.DU m l s h.ahead⟩
theorem Xp (w:X)(S So:Nat->Prop)(g gt:Nat)(m:au)(s:Fm.St)(c:UInt8)(t:Fm.Td)(h:ko w S g m s)(i:Fm.live s)(b:TM m s)(n:nk w So gt t)(hd:∀k,S k->¬So k)(j:t.es.length<=80000)(r:t.bs.length<=80000):
 Calls prog 233 #[Q (M ⟨g,0,U⟩),Q (M ⟨gt,0,U⟩),I .u8 c.toNat] w fun e w'=>ZL w S So g gt m s c t e w':=by
 have N:=h.cells.1;have C:3<=m.length:=by have:=b.long;omega
 have z:m.length<=1000:=by have:=b.short;omega
 by_cases a:s.place=0
 . have p:=H9 (JI w S So g gt m s c t h i a b.good n hd z b.ahead j r);have D:((s.place:Int)==0)=true:=by rw[a];rfl
   clear a h i b n hd;go_enter func233,ntmps233;go_wp2_with fail
   refine p.o.mono ?_;rintro e B ⟨rfl,d⟩;have q:=H9 d;clear d;go_wp2;go_ret;exact .ok rfl q.o
 . have D:((s.place:Int)==0)=F:=by rw[aR];omega
   by_cases f:s.place=5
   . have p:=H9 (JJ w S So g gt m s c t h i f b.good n hd b.two C z j);have G:((s.place:Int)==5)=true:=by rw[f];rfl
     clear f a h i b n hd;go_enter func233,ntmps233;go_wp2_with fail
     refine p.o.mono ?_;intro e B d;have q:=H9 d;obtain⟨v,u⟩:∃v,e=Y v:=by cases d with
      | ok l h=>exact⟨_,l⟩
      | fail k H L l h=>exact⟨_,l⟩
     clear d;subst u;go_wp2;go_ret;exact q.o
   . have G:((s.place:Int)==5)=F:=by rw[aR];omega
     have x:=b.good.place;have y:=i.2;have p:=H9 (za w S So g gt m s c t h i (by omega) n hd j);clear f a h i b n hd x y;go_enter func233,ntmps233;go_wp2_with fail
     refine p.o.mono ?_;intro e B d;have q:=H9 d;obtain⟨v,u⟩:∃v,e=Y v:=by cases d with
      | ok l h=>exact⟨_,l⟩
      | fail k H L l h=>exact⟨_,l⟩
     clear d;subst u;go_wp2;go_ret;exact q.o
structure Cj (w:X)(S:Nat->Prop)(g:Nat)(m:au)(s:Fm.St)(l:au)(k:Nat)(wr:X):Prop where
 two:∃S' So',ko wr S' g m (Fm.fold m s (l.take k))∧nk wr So' w.heap.size (Fm.tells Fm.FU (Fm.outs m s (l.take k)))∧(∀i,S' i->¬So' i)∧(∀i,S' i->S i∨w.heap.size<=i)∧(∀i,So' i->w.heap.size<=i)
 turns:Turns S w wr
inductive JK (w:X)(S:Nat->Prop)(g:Nat)(m:au)(s:Fm.St)(l:au)(e:Ending)(w':X):Prop
 | mk (ao:aj) (cap n:Nat) (S' So':Nat->Prop) (he:e=Y (Z ao n cap)) (hn:n=(lX (Fm.outs m s l)).length) (hR:ko w' S' g m (Fm.fold m s l)) (hO:pF w' So' 72 ao cap (lX (Fm.outs m s l))) (hd:∀i,S' i->¬So' i) (hS:∀i,S' i->S i∨w.heap.size<=i) (hSo:∀i,So' i->w.heap.size<=i) (hT:Turns S w w')
theorem Cj.step {w wr w':X}{S S' a:Nat->Prop}{g:Nat}{m:au}{s:Fm.St}{l:au}{k:Nat}(o:k<l.length)(f:∀i,S' i->S i∨w.heap.size<=i)(b:∀i,a i->w.heap.size<=i)(j:Turns S w wr)
 (h:yZ wr S' a g w.heap.size m (Fm.next m (Fm.fold m s (l.take k)) l[k]).1 (Fm.tells (Fm.tells Fm.FU (Fm.outs m s (l.take k))) (Fm.next m (Fm.fold m s (l.take k)) l[k]).2) w'):Cj w S g m s l (k+1) w':=by
 obtain⟨p,c,q,r,t,d,u,v⟩:=h;have n:l.take (k+1)=l.take k++[l[k]]:=bN o;have x:=j.size;refine⟨⟨p,c,by rw[n,Fm.oI];exact q,by rw[n,Fm.AL,Fm.zD];exact r,t,fun i e=>?_,fun i e=>?_⟩,j.trans v (fun i e y=>?_)⟩
 . rcases d i e with e | e
   . exact f i e
   . exact R (by omega)
 . rcases u i e with e | e
   . exact b i e
   . omega
 . rcases e with e | e
   . rcases f i e with e | e
     . exact e
     . omega
   . have:=b i e;omega
theorem TN {w c l:X}{S So d:Nat->Prop}{g gt:Nat}{m:au}{t:Fm.Td}{k:Nat}(s:k≠0)(o:S g)
 (a:¬d g) (p:∀i,d i->So i∨w.heap.size<=i) (b:Turns (fun i=>S i∨So i) w c)
 {f:X} (u:jv f g (Q U) 0 (Q U) U 0 0 0 0 (k:Int)) (q:Turns (fun i=>i=g) c f) (y:g<w.heap.size) (n:nk l (gM (fun i=>d i∧i<c.heap.size) f) gt (Fm.tell t (Fm.VA k))) (r:Turns (fun i=>d i∧i<c.heap.size) f l) :
 yZ w S So g gt m (Fm.fails k).1 (Fm.tells t (Fm.fails k).2) l:=by
 have v:=b.size;have x:=q.size;refine .mk (fun i=>i=g) _ (.dead (Fm.KS s) rfl (u.turns r (fun e=>a e.1))) n (fun i e j=>?_) (fun i e=>by subst e;exact A o) (fun i e=>?_) ((b.trans q (fun i e _=>by subst e;exact A o)).trans r (fun i e z=>?_))
 . subst e;rcases j with j | j
   . exact a j.1
   . omega
 . rcases e with e | e
   . exact p i e.1
   . exact R (by omega)
 . rcases p i e.1 with e | e
   . exact R e
   . omega
theorem Cj.done {w wr w':X}{S S' a:Nat->Prop}{g:Nat}{m:au}{s:Fm.St}{l:au}{k:Nat}{ao bo:aj}{cap p:Nat}(q:ko wr S' g m (Fm.fold m s (l.take k)))(hd:∀i,S' i->¬a i)(r:∀i,S' i->S i∨w.heap.size<=i)(c:∀i,a i->w.heap.size<=i)(f:Turns S w wr)(j:Fm.outs m s l=Fm.outs m s (l.take k))(t:Fm.fold m s l=Fm.fold m s (l.take k))
 (u:jS w' (gM (fun i=>a i∧i<wr.heap.size) wr) w.heap.size ao cap bo p ⟨Fm.flush (Fm.tells Fm.FU (Fm.outs m s (l.take k))),[]⟩) (n:Turns (fun i=>a i∧i<wr.heap.size) wr w'):JK w S g m s l (Y (Z ao (Fm.flush (Fm.tells Fm.FU (Fm.outs m s (l.take k)))).length cap)) w':=by
 have d:=(Fm.BD _ (Fm.yM m (l.take k) s)).1;have v:=f.size;refine .mk ao cap _ (fun i=>S' i∧i<wr.heap.size) (fun i=>gM (fun i=>a i∧i<wr.heap.size) wr i) rfl (by rw[d,j]) (by rw[t];exact(q.mono (fun i o e=>⟨e,o⟩)).turns n (fun i e b=>hd i e.1 b.1)) (by rw[j,<-d];exact u.all.mono (fun i _ e=>e.1.1)) (fun i e b=>?_) (fun i e=>r i e.1) (fun i e=>?_) (f.trans n (fun i e o=>by have:=c i e.1;omega))
 . rcases b with b | b
   . exact hd i e.1 b.1
   . have:=e.2;omega
 . rcases e with e | e
   . exact c i e.1
   . omega
theorem JL (w:X)(S:Nat->Prop)(g:Nat)(m:au)(s:Fm.St)(l:au)(bo:aj)(gJ n:Nat)(h:ko w S g m s)(hG:TM m s)(hB:iG w bo gJ l)(rC:l≠[]->∀a,bo=M a->¬S a.block)(hn:l.length=n)(hl:n<=20000):
 Calls prog 196 #[Q (M ⟨g,0,U⟩),Z bo n gJ] w fun e w'=>JK w S g m s l e w':=by
 subst hn;have hlt:=h.lt;have C:Below w.heap.size w (w.alloc (K #[Z U 0 0,Z U 0 0] 268)):=(fI _ _).alloc (aL _) _;have Xq:Cj w S g m s l 0 (w.alloc (K #[Z U 0 0,Z U 0 0] 268)):=⟨⟨fun k=>S k∧k<w.heap.size,fun k=>w.heap.size<=k,(h.mono (fun k hk e=>⟨e,hk⟩)).stay C,⟨_,_,_,_,jS.made w⟩,fun i e e2=>by have:=e.2;omega,fun i e=>A e.1,fun i e=>e⟩,Turns.of_below C⟩;have Ao:=H9 Xq;have HB:=H9 hB;have HG:=H9 hG;have Yz:=H9 rC
 have ZK:=H9 h.me;have Zw:=H9 hlt;clear hB h hG rC C Xq;go_enter func196,ntmps196;go_wp2;go_loopw [11] (fun vi wr=>∃k:Nat,k<=l.length∧vi=I J k∧Cj w S g m s l k wr) (fun vi _=>l.length-(intOf vi).toNat)
 case atStart=>exact⟨0,ay _,rfl,Ao.o⟩
 case round =>
  clear Ao;obtain⟨k,hk,rfl,D⟩:=hrel;obtain⟨S',r,b,Am,u,v,F9⟩:=D.two;have G:=D.turns;have htk:(l.take k).length<=20000:=by rw[bX];omega
  have nN:=Fm.RI (by have:=HG.o.long;omega) HG.o.good (l.take k);have hh:=HG.o.good.held;have hsh:=HG.o.short;have j:nk wr (fun i=>r i∧i<wr.heap.size) w.heap.size (Fm.tells Fm.FU (Fm.outs m s (l.take k))):=Am.mono (fun i hi e=>⟨e,hi⟩);have ZP:=H9 (IG wr _ w.heap.size _ j (by omega));have QO:Hid (∀(w':X) (ao bo:aj) (H bc:Nat),Fm.outs m s l=Fm.outs m s (l.take k)->Fm.fold m s l=Fm.fold m s (l.take k)->jS w' (gM (fun i=>r i∧i<wr.heap.size) wr) w.heap.size ao H bo bc ⟨Fm.flush (Fm.tells Fm.FU (Fm.outs m s (l.take k))),[]⟩->Turns (fun i=>r i∧i<wr.heap.size) wr w'->JK w S g m s l (Y (Z ao (Fm.flush (Fm.tells Fm.FU (Fm.outs m s (l.take k)))).length H)) w'):=fun w' ao bo H bc ho hf hR t=>Cj.done b u v F9 G ho hf hR t;by_cases x:k<l.length
  . obtain⟨bb,oo,rfl,_⟩:=HB.o.lit (by omega);have hne:l≠[]:=by intro e;subst e;simp at x
    obtain⟨b2,o2,L,N⟩:=(HB.o.turns G (fun a e=>Yz.o hne a e)).lit (by omega);injection L with L;injection L with hb2 ho2;subst hb2;subst ho2;have ck:=N k x;have hlt':(k:Int)<l.length:=by omega
    have hcap:=HB.o.1;obtain⟨c4,c5,c6,fz⟩:=b.cells;by_cases p:Fm.live (Fm.fold m s (l.take k))
    . have hG':=HG.o.fold (l.take k);have tC:=H9 (Xp wr S' r g w.heap.size m _ l[k] _ b p hG' Am u (by omega) (by omega));have IJ:Hid (∀w',yZ wr S' r g w.heap.size m (Fm.next m (Fm.fold m s (l.take k)) l[k]).1 (Fm.tells (Fm.tells Fm.FU (Fm.outs m s (l.take k))) (Fm.next m (Fm.fold m s (l.take k)) l[k]).2) w'->Cj w S g m s l (k+1) w'):=fun w' hw=>Cj.step x v F9 G hw;have t0:(((Fm.fold m s (l.take k)).code:Int) != 0)=F:=by rw[p.1];rfl
      have t6:(((Fm.fold m s (l.take k)).place:Int)==6)=F:=by rw[aR];have:=p.2;omega
      have ain:=H9 b.me;have aio:=H9 b.lt
      have hes:(Fm.tells Fm.FU (Fm.outs m s (l.take k))).es.length<=80000:=by omega
      have HEs:=H9 hes;generalize Fm.tells Fm.FU (Fm.outs m s (l.take k))=td at *;generalize Fm.fold m s (l.take k)=O at *;generalize l[k]=cb at *;clear b Am u v F9 nN j N p D ZP QO hG' hes;go_wp2_with fail
      refine tC.o.mono ?_;intro e w1 O0;cases O0 with
      | ok he hW =>
        subst he;have HW:=H9 (IJ.o w1 hW);clear hW;go_wp2;go_roundw
        case rel=>exact⟨k+1,by omega,by go_num,HW.o⟩
        case measure=>simp[intOf];omega
      | fail kk hkk hN he D =>
        subst he;have tk:((kk:Int) != 0)=true:=by rw[cO];omega
        obtain⟨Mi,sk,ln,ah,pl,pt,cd,fo,nf,gL,f,qy,P,Ae,hT1⟩:=D;have q0:=f.c0;have q1:=f.c1;have q2:=f.c2;have q3:=f.c3;have q4:=f.c4;have q5:=f.c5;have q6:=f.c6
        have f0:=f.fz 0;have f1:=f.fz 1;have f2:=f.fz 2;have f3:=f.fz 3;have f4:=f.fz 4;have f5:=f.fz 5;have f6:=f.fz 6
        obtain⟨UL,Ca⟩:=f.anew 0 (kk:Int);have hO7:=(qy.mono (S':=fun i=>Mi i∧i<w1.heap.size) (fun i hi e=>⟨e,hi⟩)).turns Ca (fun i e e2=>by subst e2;exact P e.1);have Tt:=H9 (xU _ _ w.heap.size td 4 ⟨#[]⟩ ⟨#[]⟩ ⟨#[]⟩ (kk:Int) hO7 (by decide) (by have:=HEs.o;omega));have HR7:=H9 UL;have HT7:=H9 Ca;have HK:Hid (kk≠0∧¬Mi g∧(∀i,Mi i->r i∨wr.heap.size<=i)):=⟨hkk,P,Ae⟩;have HT1:=H9 hT1;have HN:=H9 hN
        clear f UL Ca hO7 hkk P Ae hT1 qy hN;go_wp2_with fail
        refine Tt.o.mono ?_;rintro e T ⟨rfl,j,t⟩;have hW:=TN (m:=m) HK.o.1 ain.o HK.o.2.1 HK.o.2.2 HT1.o HR7.o HT7.o aio.o j t;have HW:=H9 (IJ.o T (by rw[HN.o];exact hW));clear j t hW;go_wp2;go_roundw
        case rel=>exact⟨k+1,by omega,by go_num,HW.o⟩
        case measure=>simp[intOf];omega
    . have W:=Fm.lS (m:=m) (l.drop k) p;have q:Hid (Fm.outs m s l=Fm.outs m s (l.take k)∧Fm.fold m s l=Fm.fold m s (l.take k)):=by
       constructor
       . conv=>lhs;rw[<-bW k l,Fm.jE,W.1,bV]
       . conv=>lhs;rw[<-bW k l,Fm.jL,W.2]
      have HLv:=H9 p;generalize Fm.flush (Fm.tells Fm.FU (Fm.outs m s (l.take k)))=fl at *;generalize hfo:Fm.fold m s (l.take k)=O at *;generalize l[k]=cb at *;clear b Am u v F9 nN j N p W D;by_cases B:O.code=0
      . have t0:((O.code:Int) != 0)=F:=by rw[B];rfl
        have h6:O.place=6:=by
         rcases Nat.decEq O.place 6 with e | e
         . exact absurd ⟨B,e⟩ HLv.o
         . exact e
        have t6:((O.place:Int)==6)=true:=by rw[h6];rfl
        clear B h6;go_wp2_with fail
        refine ZP.o.mono ?_;rintro e T ⟨jw,c,AV,y,rfl,d,t⟩;have z:=H9 (QO.o T jw AV c y q.o.1 q.o.2 d t);clear d t;go_wp2;go_ret;exact z.o
      . have t0:((O.code:Int) != 0)=true:=by rw[cO];omega
        clear B;go_wp2_with fail
        refine ZP.o.mono ?_;rintro e T ⟨jw,c,AV,y,rfl,d,t⟩;have z:=H9 (QO.o T jw AV c y q.o.1 q.o.2 d t);clear d t;go_wp2;go_ret;exact z.o
  . obtain rfl:k=l.length:=by omega
    have q:Hid (Fm.outs m s l=Fm.outs m s (l.take l.length)∧Fm.fold m s l=Fm.fold m s (l.take l.length)):=by
     unfold Hid;rw[bO];exact⟨rfl,rfl⟩
    generalize Fm.flush (Fm.tells Fm.FU (Fm.outs m s (l.take l.length)))=fl at *;clear b Am u v F9 nN j D;go_wp2_with fail
    refine ZP.o.mono ?_;rintro e T ⟨jw,c,AV,y,rfl,d,t⟩;have z:=H9 (QO.o T jw AV c y q.o.1 q.o.2 d t);clear d t;go_wp2;go_ret;exact z.o
inductive ZQ (w:X)(l:au)(e:Ending)(w':X):Prop
 | no (h:Fm.lJ l=F) (he:e=Y (.tuple #[Q U,I J 5])) (hb:Below w.heap.size w w')
 | yes (h:Fm.lJ l=true) (g:Nat) (he:e=Y (.tuple #[Q (M ⟨g,0,U⟩),I J 0])) (hF:ko w' (fun k=>w.heap.size<=k) g (Fm.mark l) Fm.start) (hb:Below w.heap.size w w')
theorem Ml (s:av)(w:X):
 Calls prog 195 #[V s] w fun e w'=>ZQ w s.data.toList e w':=by
 have u:=H9 (Xt s w);have hl:=Ch.iC s;cases l:Fm.lJ s.data.toList with
 | false =>
   rw[l] at u;have HR:=H9 l;clear l;go_enter func195,ntmps195;go_wp2_with fail
   refine u.o.mono ?_;rintro e w1 ⟨rfl,f⟩;have HB1:=H9 f;clear f;go_wp2;go_ret2;exact .no HR.o rfl HB1.o
 | true =>
   rw[l] at u;have HR:=H9 l;obtain⟨v,x⟩:=Af l;rw[hl] at x;obtain⟨y,z,B⟩:=Fm.DV s.data.toList v (by rw[hl];exact x);have hx:((⟨#[13,10,45,45]⟩:av)++s).data.toList=Fm.mark s.data.toList:=by rw[Ch.data_append];rfl
   have m:((⟨#[13,10,45,45]⟩:av)++s).size=(Fm.mark s.data.toList).length:=Ch.size_of_list hx;clear l v;go_enter func195,ntmps195;go_wp2_with fail
   refine u.o.mono ?_;rintro e w1 ⟨rfl,f⟩;obtain⟨cap,w2,qw,C,n⟩:=NR (P:=prog) w1 ((⟨#[13,10,45,45]⟩:av)++s) 9 31 5 (by rw[m];unfold maxLen;omega) underlying9 underlying31 underlying5;rw[hx] at n;rw[m] at qw;have UU:=H9 (Xr (Fm.mark s.data.toList) _ cap w2 n.wZ (by omega));have D:=H9 (then_ f C);have q:Hid ((Fm.mark s.data.toList).take 2=[13,10]∧5<=(Fm.mark s.data.toList).length∧(Fm.mark s.data.toList).length<=74):=⟨y,z,B⟩;clear hx m n C f y z B u;have hst:(s.size:Int)<=70:=by omega
   generalize G:Fm.mark s.data.toList=mk at *;go_wp2_with fail
   refine UU.o.mono ?_;rintro e g ⟨i,p,rfl,H,L,N,O,r⟩;have d:=H9 H;have HG:Hid (w2.heap.size<=i∧w2.heap.size<=p.gb∧∀a,p.mo=M a->w2.heap.size<=a.block):=⟨L,N,O⟩;have HB3:=H9 (then_ D.o r)
   have Jf:=H9 r.size;clear H L N O r UU qw;go_wp2_with fail
   refine(uN g).mono ?_;rintro e c ⟨rfl,hL,j⟩;have jo:Below c.heap.size c (c.alloc (K #[Q (M ⟨i,0,U⟩),I J 0,Q (M ⟨g.heap.size,0,U⟩),Z U 0 0,I J 0,I J 0,I J 0] 266)):=(fI _ _).alloc (aL _) _;have b:jv (c.alloc (K #[Q (M ⟨i,0,U⟩),I J 0,Q (M ⟨g.heap.size,0,U⟩),Z U 0 0,I J 0,I J 0,I J 0] 266)) c.heap.size (Q (M ⟨i,0,U⟩)) 0 (Q (M ⟨g.heap.size,0,U⟩)) U 0 0 0 0 0:=⟨fH c _⟩;have hz2:=D.o.size;have hz3:=Jf.o;have hz4:=j.size;have aip:i<g.heap.size:=d.o.lt;have aiq:p.gb<g.heap.size:=d.o.2.2.lt;have t:tJ (c.alloc (K #[Q (M ⟨i,0,U⟩),I J 0,Q (M ⟨g.heap.size,0,U⟩),Z U 0 0,I J 0,I J 0,I J 0] 266)) (fun k=>w.heap.size<=k∧k≠c.heap.size) mk ⟨0,0,0,Ln.start,[],0,0⟩ i g.heap.size p U 0 (fun k=>g.heap.size<=k):=by
    refine⟨(d.o.stay j).stay jo,⟨⟨by have:=HG.o.1;omega,by omega⟩,⟨by have:=HG.o.2.1;omega,by omega⟩,fun a e=>⟨by have:=HG.o.2.2 a e;omega,by have:=(d.o.2.1.block a e).2;omega⟩⟩,⟨by omega,by omega,fun a e=>by have:=(d.o.2.1.block a e).2;omega⟩,?_,gU.nil _ _ _ _,fun a e=>(by cases e)⟩;have:=hL.mono (S':=fun k=>(w.heap.size<=k∧k≠c.heap.size)∧g.heap.size<=k) (fun k hk e=>⟨⟨by omega,by omega⟩,e⟩);exact this.turns (Turns.of_below (S:=fun _=>False) jo) (fun _ _ e=>e)
   have T:mQ (c.alloc (K #[Q (M ⟨i,0,U⟩),I J 0,Q (M ⟨g.heap.size,0,U⟩),Z U 0 0,I J 0,I J 0,I J 0] 266)) i mk 0 p:=t.sk;have Zz:=H9 (yB _ c.heap.size i mk p _ b.c0 b.c1 (b.fz 1) (by omega) T q.o.1 (by have:=q.o.2.1;omega) (by have:=q.o.2.2;omega));have nW:=H9 b;have air:=H9 t
   have oG:=H9 (then_ (then_ HB3.o j) jo);have Hz:Hid (w.heap.size<=c.heap.size):=by show _<=_;omega
   clear b t T jo hL j hz2 hz3 hz4 aip aiq d HG;go_wp2_with fail
   refine Zz.o.mono ?_;rintro e w6 ⟨w5,rfl,W,hS6,Oq⟩;obtain⟨r6,t6⟩:=ko.sought (s:=⟨0,0,0,Ln.start,[],0,0⟩) (a2:=2) (S:=fun k=>w.heap.size<=k) ⟨rfl,by decide⟩ Hz.o nW.o air.o hS6 Oq;have e6:w5.setCell ⟨c.heap.size,1,U⟩ (I J ((2:Nat):Int))=w6:=W.symm;rw[e6] at r6 t6;have HF6:=H9 r6;have vO:=H9 (oG.o.trans (t6.below (fun k e=>e) oG.o.size));have ais:=H9 G;clear r6 t6 e6 W hS6 Oq G;go_wp2;go_ret2;refine .yes HR.o c.heap.size rfl ?_ vO.o;rw[ais.o];exact HF6.o
theorem jm.acB (W:X)(a:Array Value)(n t:Nat)(b:Nat×Nat){k:Nat}(c:W.heap.size=k):jm (W.alloc (K a t b)) (M ⟨k,0,U⟩) n n a.toList:=by
 subst c;exact jm.made W a n t b
def aa5 (w:X)(D:Nat->Prop)(ao:aj)(cap:Nat)(es:List iM):Prop :=
 es.length<=cap∧(0<es.length->∃b o,ao=M ⟨b,o,U⟩∧∀j (hj:j<es.length),∃s,abr w b (o+j*12) es[j] s∧jZ w D s.bo s.gJ es[j].bytes∧jZ w D s.po s.jy es[j].iq)
theorem nQ.aeN {w:X}{S:Nat->Prop}{k:Nat}{ao:aj}{cap:Nat}{es:List iM}(h:nQ w S k ao cap es):aa5 w S ao cap es:=by
 obtain⟨f,rfl,l,_,m⟩:=h;have g:=l.nP;refine⟨g.1,fun n=>?_⟩;obtain⟨b,o,rfl,p⟩:=g.lit (by rw[mW];rw[aD] at n;omega);refine⟨b,o,rfl,fun j q=>?_⟩;have c:j<f.length:=by simpa using q
 refine⟨f[j].2,?_⟩;rw[aF];have a:=m _ (aB c);refine⟨⟨fun i u d=>?_,a.fields.is,a.bytes.is,a.iq.is⟩,a.bytes.mono (fun _ _ e=>e.1),a.iq.mono (fun _ _ e=>e.1)⟩;have r:i<12:=(aP.1 d).1;rw[<-rA _ j c i r] at d;have:=p _ _ d;rw[bK];exact this
theorem O3 (w:X)(D:Nat->Prop)(ao:aj)(cap n:Nat)(es:List iM)(N:aa5 w D ao cap es)(hn:es.length=n)(hl:n<=100000)(hL:Fm.zG es):
 Calls prog 198 #[Z ao n cap] w fun e w'=>∃gV a m,e=Y (Z gV m a)∧qc w D (Fm.pQ es) gV a m w':=by
 subst hn;have HE:=H9 N;have HL:=H9 hL
 obtain⟨i0,P,S,T,W⟩:=info_parts SQ;have Hi:=H9 P;have kJ:=H9 S;have kG:=H9 T;have kK:=H9 W
 clear N hL P S T W;go_enter func198,ntmps198;go_wp2;go_loopw [3,8] (fun vo vi wr=>∃(i m:Nat) (gV:aj) (a:Nat),i<=es.length∧vi=I J i∧vo=Z gV m a∧qc w D (Fm.pQ (es.take i)) gV a m wr) (fun _ vi _=>es.length-(intOf vi).toNat)
 case atStart=>exact⟨0,0,U,0,ay _,rfl,rfl,qc.start w D⟩
 case round =>
  obtain⟨i,m,gV,a,hi,rfl,rfl,hP⟩:=hrel;have HP:=H9 hP;have hml:m<=100000:=by have h1:=hP.len;have r:=Fm.BJ (es.take i);rw[bX] at r;omega
  clear hP;by_cases C:i<es.length
  . have hlt':(i:Int)<es.length:=by omega
    obtain⟨b,o,rfl,hEs⟩:=HE.o.2 (by omega);obtain⟨s,N,hD1,hD2⟩:=hEs i C;have hcap:=HE.o.1;have d:=fun r=>Fm.Hu _ _ rfl (HL.o.at_ C r);have O:Hid (Fm.pQ (es.take (i+1))=Fm.laid (Fm.pQ (es.take i)) es[i]):=by
     unfold Hid;rw[bN C,Fm.Ht]
    clear hEs;generalize es[i]=e at *;have c:∀j u,(e.cells s)[j]? = M u->wr.cell? ⟨b,o+i*12+j,U⟩=M u:=fun j u hu=>(HP.o.below.cell (fZ w _ (N.at_ j u hu))).trans (N.at_ j u hu);have c0:wr.cell? ⟨b,o+i*12,U⟩=M (I J e.kind):=c 0 _ rfl;have c1:wr.cell? ⟨b,o+i*12+1,U⟩=M (V e.method):=c 1 _ rfl;have c2:wr.cell? ⟨b,o+i*12+2,U⟩=M (V e.target):=c 2 _ rfl;have c3:wr.cell? ⟨b,o+i*12+3,U⟩=M (I J e.minor):=c 3 _ rfl;have c4:wr.cell? ⟨b,o+i*12+4,U⟩=M (Z s.fo e.fields.length s.gL):=c 4 _ rfl;have c5:wr.cell? ⟨b,o+i*12+5,U⟩=M (I J e.length):=c 5 _ rfl;have c6:wr.cell? ⟨b,o+i*12+6,U⟩=M (Z s.bo e.bytes.length s.gJ):=c 6 _ rfl;have c7:wr.cell? ⟨b,o+i*12+7,U⟩=M (V e.kV):=c 7 _ rfl;have c8:wr.cell? ⟨b,o+i*12+8,U⟩=M (V e.kI):=c 8 _ rfl;have c9:wr.cell? ⟨b,o+i*12+9,U⟩=M (V e.ptype):=c 9 _ rfl;have c10:wr.cell? ⟨b,o+i*12+10,U⟩=M (Z s.po e.iq.length s.jy):=c 10 _ rfl;have c11:wr.cell? ⟨b,o+i*12+11,U⟩=M (I J e.code):=c 11 _ rfl;have HBy:Hid (jZ w D s.bo s.gJ e.bytes∧jZ w D s.po s.jy e.iq):=⟨hD1,hD2⟩;have jo:Below wr.heap.size wr (wr.alloc (K #[I J e.kind,V e.method,V e.target,I J e.minor,Z s.fo e.fields.length s.gL,I J e.length,Z s.bo e.bytes.length s.gJ,V e.kV,V e.kI,V e.ptype,Z s.po e.iq.length s.jy,I J e.code] 72)):=(fI _ _).alloc (aL _) _;have l:=H9 (HP.o.stay jo);clear c N jo hD1 hD2;generalize e.fields.length=nfl at *;obtain⟨nb,G⟩:∃nb,e.bytes.length=nb:=⟨_,rfl⟩;obtain⟨z,H⟩:∃z,e.iq.length=z:=⟨_,rfl⟩;rw[G] at c6 l;rw[H] at c10 l;have WC:=H9 G;have ait:=H9 H
    clear G H;by_cases B:e.kind=5
    . have t5:(e.kind==5)=true:=aS.2 B;have f:Fm.laid (Fm.pQ (es.take i)) e=Fm.pQ (es.take i)++[⟨e.kV,e.kI,e.ptype,e.iq⟩]:=by unfold Fm.laid;rw[if_pos B]
      obtain⟨xs,hO,hpu⟩:=(l.o.stay ((fI _ _).alloc (aL _) (K #[V e.kV,V e.kI,V e.ptype,Z s.po z s.jy] 70))).push;have HO:=H9 hO;have HPu:=H9 hpu;have t:=H9 (O.o.trans f)
      have Al:Hid (SS ⟨e.kV,e.kI,e.ptype,e.iq⟩ ⟨s.po,s.jy⟩=[V e.kV,V e.kI,V e.ptype,Z s.po z s.jy]):=by unfold Hid SS;rw[ait.o]
      have CK:Hid (w.heap.size<=wr.heap.size):=HP.o.below.size;clear B f hO hpu d O;generalize e.kind=ek at *;go_wp2_with (at_builtin;refine gQ rfl (.tmp 16) (.tmp 19) 187 rfl w.heap.size 70 i0 (.agg #[V ⟨#[]⟩,V ⟨#[]⟩,V ⟨#[]⟩,Z U 0 0]) 4 72 underlying187 Hi.o kJ.o kG.o kK.o rfl (by decide) rfl HO.o rfl (jm.acB _ _ 1 _ _ (by simp)) rfl (fun u hu=>by simp at hu;rcases hu with rfl | rfl | rfl | rfl <;> rfl) (by omega) (by omega) (by rw[fV,fV];have:=CK.o;omega) ?_;intro a3 c3 w3 hO3 hG3 ku;have J7:=H9 (HPu.o a3 c3 w3 ⟨e.kV,e.kI,e.ptype,e.iq⟩ ⟨s.po,s.jy⟩ HBy.o.2 (by rw[Al.o];exact hO3) hG3);clear hO3 hG3 ku)
      go_roundw
      case rel=>exact⟨i+1,m+1,a3,c3,by omega,by go_num,rfl,by rw[t.o];exact J7.o⟩
      case measure=>simp[intOf];omega
    . have t5:(e.kind==5)=F:=aR.2 B;by_cases r:e.kind=2
      . have t2:(e.kind==2)=true:=aS.2 r;have y:=d r;obtain⟨qs,p,L⟩:∃qs p,Fm.pQ (es.take i)=qs++[p]:=by
         rcases bC (Fm.pQ (es.take i)) with e0 | ⟨q,x,e0⟩
         . rw[e0] at y;simp at y
         . exact⟨q,x,by rw[e0,bE]⟩
        have f:Fm.laid (Fm.pQ (es.take i)) e=qs++[{ p with bytes:=e.bytes }]:=by
         unfold Fm.laid;rw[if_neg B,if_pos r,L,fq,eZ];rfl
        have t:=H9 (O.o.trans f);rw[L] at l;obtain⟨k,rfl⟩:∃k,m=k+1:=⟨m-1,by have h1:=l.o.len;rw[aV] at h1;simp at h1;omega⟩;obtain⟨g,rfl,⟨v,cv⟩,fv,hc1,hby⟩:=l.o.bytes;have J7:=H9 (hby e.bytes s.bo s.gJ nb HBy.o.1 WC.o.symm);have m0:(0:Int)<=(k:Int):=by omega
        have m1:(k:Int)<(k:Int)+1:=by omega
        have m2:((k+1:Nat):Int)-1=(k:Int):=by omega
        clear B r f d O y L hby
        generalize e.kind=ek at *;go_wp2;go_roundw
        case rel=>exact⟨i+1,k+1,M ⟨g,0,U⟩,a,by omega,by go_num,rfl,by rw[t.o];exact J7.o⟩
        case measure=>simp[intOf];omega
      . have t2:(e.kind==2)=F:=aR.2 r;have f:Fm.laid (Fm.pQ (es.take i)) e=Fm.pQ (es.take i):=by unfold Fm.laid;rw[if_neg B,if_neg r]
        have t:=H9 (O.o.trans f);clear B r f d O;generalize e.kind=ek at *;go_wp2;go_roundw
        case rel=>exact⟨i+1,m,gV,a,by omega,by go_num,rfl,by rw[t.o];exact l.o⟩
        case measure=>simp[intOf];omega
  . obtain rfl:i=es.length:=by omega
    go_wp2;go_ret;refine⟨gV,a,m,rfl,?_⟩;have:=HP.o;rw[bO] at this;exact this
inductive ZR (w:X)(s l:au)(e:Ending)(w':X):Prop
 | no (c:Nat) (hc:c≠0) (h:Fm.lJ s=F∧c=5∨Fm.lJ s=true∧Fm.close (Fm.fold (Fm.mark s) Fm.start l)=c) (he:e=Y (.tuple #[Z U 0 0,I J (c:Int)])) (hb:Below w.heap.size w w')
 | yes (hm:Fm.lJ s=true) (h:Fm.close (Fm.fold (Fm.mark s) Fm.start l)=0) (w1:X) (hz:w.heap.size<=w1.heap.size) (ao:aj) (cap n:Nat) (he:e=Y (.tuple #[Z ao n cap,I J 0])) (hP:qc w1 (fun k=>w.heap.size<=k) (Fm.pQ (lX (Fm.outs (Fm.mark s) Fm.start l))) ao cap n w') (hb:Below w.heap.size w w')
theorem wV {s:au}(h:Fm.lJ s=true):TM (Fm.mark s) Fm.start:=by
 obtain⟨d,e⟩:=Af h;obtain⟨a,b,c⟩:=Fm.DV s d e;exact⟨Fm.Good.start (by omega),a,b,by omega,aL _⟩
theorem Xu (s:av)(l:au)(bo:aj)(gJ n:Nat)(w:X)(L:iG w bo gJ l)(N:l.length=n)(hl:n<=20000):
 Calls prog 149 #[V s,Z bo n gJ] w fun e w'=>ZR w s.data.toList l e w':=by
 have UU:=H9 (Ml s w);have O:=H9 L;have P:=H9 N
 clear L N;go_enter func149,ntmps149;go_wp2_with fail
 refine UU.o.mono ?_;intro e w1 x;cases x with
 | no d j b =>
   subst j;have f:=H9 d;have p:=H9 b
   clear d b;go_wp2;go_ret2;exact .no 5 (by decide) (A ⟨f.o,rfl⟩) rfl p.o
 | yes d g j x b =>
   subst j;have hz:=b.size;have f:=H9 d;have p:=H9 b
   have S:l≠[]->∀a,bo=M a->¬w.heap.size<=a.block:=fun z a ea=>by
    subst ea;have hp:0<l.length:=fD.2 z;have:=fZ w _ (O.o.cell 0 hp);rw[add_block] at this;omega
   have oV:=H9 (JL w1 _ g (Fm.mark s.data.toList) Fm.start l bo gJ n x (wV d) (O.o.stay b) S P.o hl);clear d x b hz S;go_wp2_with fail
   refine oV.o.mono ?_;rintro e T ⟨ao,C,k,S',So',j,W,hR,hO,hd,hS,q,hT⟩;subst j;have c:=H9 (p.o.trans (hT.below (B:=w.heap.size) (fun k e=>e) p.o.size));have Al:=H9 (Tx T S' g _ _ hR);have nN:=Fm.nH (by have:=(wV f.o).long;omega) l (wV f.o).good;have D:=uG (Fm.outs (Fm.mark s.data.toList) Fm.start l);have hk4:k<=40000:=by have:=P.o;omega
   have G:=H9 (O3 T (fun k=>w.heap.size<=k) ao C k _ (hO.all.mono (fun i _ e=>dF p.o.size (q i e))).aeN W.symm (by omega) (Fm.VP _ _));clear W hR hO hd hS q hT nN D;generalize r:Fm.close (Fm.fold (Fm.mark s.data.toList) Fm.start l)=y at *;have t:=H9 r;clear r;go_wp2_with fail
   refine Al.o.mono ?_;rintro e w3 ⟨rfl,hw⟩;subst hw;by_cases u:y=0
   . have tc:((y:Int) != 0)=F:=by rw[u];rfl
     have H:=H9 u;clear u;go_wp2_with fail
     refine G.o.mono ?_;rintro e w4 ⟨gV,v,m,rfl,hP⟩;have HP:=H9 hP;clear hP;go_wp2;go_ret2;exact .yes f.o (t.o.trans H.o) w3 c.o.size gV v m rfl HP.o (then_ c.o HP.o.below)
   . have tc:((y:Int) != 0)=true:=by rw[cO];omega
     have H:=H9 u;clear u;go_wp2;go_ret2;exact .no y H.o (R ⟨f.o,t.o⟩) rfl c.o
theorem xX (e:iM)(s:EvS)(a:List Value)(h:e.cells s=a):∀u∈a,u.oneCell'=true:=fun u b=>cells_one e s u (by rw[h];exact b)
theorem jm.aan (W:X)(a:Array Value)(n t:Nat)(b:Nat×Nat){k:Nat}(c:W.heap.size=k):jm (W.alloc (K a t b)) (M ⟨k,0,U⟩) n n a.toList:=by
 subst c;exact jm.made W a n t b
structure wW (w:X)(ao:aj)(cap n:Nat)(es:List Rq.Ev)(W:X):Prop where
 cell:jI w #[Z ao n cap] 58 W
 want:kL W (w.heap.size+1) 72 ao cap (es.map Rq.Ev.d)
 len:n=es.length
section
variable {w W W':X} {ao:aj} {cap n:Nat} {es:List Rq.Ev}
theorem wW.start (w:X):wW w U 0 0 [] (w.alloc (K #[Z U 0 0] 58)):=⟨jI.made w _ _,kL.nil _ _ _,rfl⟩
theorem wW.stay (h:wW w ao cap n es W)(a:Below W.heap.size W W'):wW w ao cap n es W':=⟨h.cell.stay a,h.want.stay a,h.len⟩
theorem wW.push (h:wW w ao cap n es W)(c:Obj):∃xs,gU (W.alloc c) (w.heap.size+1) 72 12 ao cap n xs ∧
 ∀gV b w' (e : Rq.Ev) s j, e.d.cells s = j -> xY W (fun k => w.heap.size + 1 <= k ∧ gK ao ≠ M k) e.d s -> gU w' (w.heap.size + 1) 72 12 gV b (n + 1) (xs ++ j) -> (W.alloc c).grownBy w' (gK ao) -> (gK gV = gK ao ∨ gK gV = M (W.alloc c).heap.size) ->
   kL w' (w.heap.size+1) 72 gV b ((es++[e]).map Rq.Ev.d)∧jI w #[Z ao n cap] 58 w'∧Below w.heap.size w w'∧wW w gV b (n+1) (es++[e]) (w'.setCell ⟨w.heap.size,0,U⟩ (Z gV (n+1) b)):=by
 have o:=h.len;obtain⟨v,q,r⟩:=h.want.push c;have x:(es.map Rq.Ev.d).length=n:=by rw[aD];exact o.symm
 rw[x] at q r;refine⟨iW v,q,fun gV b w' e s j y z B C l=>?_⟩;subst y;obtain⟨D,G⟩:=r gV b w' e.d s z B C l;have H:Below W.heap.size W (W.alloc c):=(fI _ _).alloc (aL _) _;have m:jI w #[Z ao n cap] 58 w':=(h.cell.stay H).turns G (fun k e=>by omega);have L:=m.put 0 (Z gV (n+1) b);have t:Turns (fun k=>k=w.heap.size) w' (w'.setCell ⟨w.heap.size,0,U⟩ (Z gV (n+1) b)):=gZ w.heap.size [Z gV (n+1) b] 0 w';have i:kL w' (w.heap.size+1) 72 gV b ((es++[e]).map Rq.Ev.d):=by rw[bF];exact D
 refine⟨i,m,m.below,⟨L,?_,by rw[aV,o];rfl⟩⟩;obtain⟨N,O,u,P⟩:=i;have S:∀a,gV=M a->¬a.block=w.heap.size:=fun a e k=>by have:=(u.block a e).1;omega
 refine⟨N,O,u.turns t S,fun p T=>?_⟩;exact((P p T).turns t (fun k f g=>by omega))
end
theorem mU (w W:X)(ao:aj)(cap n c:Nat)(es:List Rq.Ev)(h:wW w ao cap n es W)(D:n<=1000000):
 Calls prog 41 #[I J (c:Int),Q (M ⟨w.heap.size,0,U⟩)] W fun e w'=>∃a2 k,e=Y (.tuple #[Z a2 (n+1) k,.bool F])∧kL w' (w.heap.size+1) 72 a2 k ((es++[Rq.Ev.fail c]).map Rq.Ev.d)∧Below w.heap.size w w':=by
 obtain⟨G,a,l⟩:=h.push (K #[I J 4,V ⟨#[]⟩,V ⟨#[]⟩,I J 0,Z U 0 0,I J 0,Z U 0 0,V ⟨#[]⟩,V ⟨#[]⟩,V ⟨#[]⟩,Z U 0 0,I J (c:Int)] 72);have s:=H9 a;have t:=H9 l
 have H:W.cell? ⟨w.heap.size,0,U⟩=M (Z ao n cap):=h.cell.cell 0;have u:Hid (w.heap.size+1<=W.heap.size):=h.cell.lt;obtain⟨v,b,f,g,i⟩:=info_parts Ag;have x:=H9 b;have y:=H9 f;have z:=H9 g;have B:=H9 i
 clear b f g i a l h;go_enter func41,ntmps41;go_wp2_with (at_builtin;refine gQ rfl (.tmp 5) (.tmp 8) 58 rfl (w.heap.size+1) 72 v (.agg #[I J 0,V ⟨#[]⟩,V ⟨#[]⟩,I J 0,Z U 0 0,I J 0,Z U 0 0,V ⟨#[]⟩,V ⟨#[]⟩,V ⟨#[]⟩,Z U 0 0,I J 0]) 12 184 underlying58 x.o y.o z.o B.o rfl (by decide) rfl s.o rfl (jm.made _ _ 1 _ _) rfl (xX (Rq.Ev.fail c).d ⟨U,0,U,0,U,0⟩ _ rfl) (by omega) (by omega) (by rw[fV];have:=u.o;omega) ?_;intro m p C a q j;have r:=H9 (t.o m p C (.fail c) ⟨U,0,U,0,U,0⟩ _ rfl ⟨nD.nil _ _,jZ.nil _ _,jZ.nil _ _⟩ a q j);clear a q j)
 go_ret2;exact⟨m,p,rfl,r.o.1,r.o.2.2.1⟩
def uq (w:X)(b:au)(e:Ending)(w':X):Prop:=∃a2 c2,e=Y (.tuple #[Z a2 (Rq.of b).1.length c2,.bool (Rq.of b).2])∧kL w' (w.heap.size+1) 72 a2 c2 ((Rq.of b).1.map Rq.Ev.d)∧Below w.heap.size w w'
theorem uq.of {w:X}{b:au}{e:Ending}{w':X}{es:List Rq.Ev}{f:Bool}{a2:aj}{c n:Nat}(a:Rq.of b=(es,f))(g:n=es.length)(i:e=Y (.tuple #[Z a2 n c,.bool f]))(j:kL w' (w.heap.size+1) 72 a2 c (es.map Rq.Ev.d))(k:Below w.heap.size w w'):uq w b e w':=by
 refine⟨a2,c,?_,by rw[a];exact j,k⟩;rw[a,i,g]
structure afw (w:X)(b:au)(p:Nat)(ao:aj)(ca n:Nat)(es:List Rq.Ev)(f:Nat)(wr:X):Prop where
 rs:wW w ao ca n es wr
 f_:(b.drop p).length<f+1
 PV:Rq.of b=(es++(Rq.go (f+1) (b.drop p)).1,(Rq.go (f+1) (b.drop p)).2)
 few:n<=3*p
structure aar (wH:X)(h:Rq.Hd)(fo:aj)(gL nf:Nat)(W:X):Prop where
 one:jI wH #[V ⟨h.method.toArray⟩,V ⟨h.target.toArray⟩,I J (h.minor:Int),Z fo nf gL,I J 0] 68 W
 row:gU W (wH.heap.size+1) 111 2 fo gL nf (gT (Rq.nu h.fields))
 len:nf=h.fields.length
structure abp (w wH:X)(b:au)(p:Nat)(ao:aj)(ca n:Nat)(es:List Rq.Ev)(f f2:Nat)(h:Rq.Hd)(fo:aj)(gL nf:Nat)(wr:X):Prop where
 hb:aar wH h fo gL nf wr
 f_:(b.drop p).length<f2+1
 PV:Rq.of b=(es++(Rq.goH f h (Rq.rG (f2+1) (b.drop p) h.fields)).1,(Rq.goH f h (Rq.rG (f2+1) (b.drop p) h.fields)).2)
 good:Rq.nG h
theorem aar.more {b W c:X}{h:Rq.Hd}{fo g:aj}{gL nf i:Nat}{d f:av}(j:aar b h fo gL nf W){l:X}(o:Below W.heap.size W l)(m:gU c (b.heap.size+1) 111 2 g i (nf+1) (gT (Rq.nu h.fields)++[V d,V f]))(p:l.grownBy c (gK fo)):
 jI b #[V ⟨h.method.toArray⟩,V ⟨h.target.toArray⟩,I J (h.minor:Int),Z fo nf gL,I J 0] 68 c ∧
 aar b { h with fields:=h.fields++[(d.data.toList,f.data.toList)] } g i (nf+1) (c.setCell ⟨b.heap.size,3,U⟩ (Z g (nf+1) i)):=by
 have n:jI b #[V ⟨h.method.toArray⟩,V ⟨h.target.toArray⟩,I J (h.minor:Int),Z fo nf gL,I J 0] 68 c:=(j.one.stay o).turns (S:=fun k=>gK fo=M k) (Turns.iY p (fun k e=>e)) (fun k e=>by
  cases fo with
  | none=>cases e
  | some a=>injection e with e;subst e;exact(j.row.block a rfl).1)
 have q:Turns (fun k=>k=b.heap.size) c (c.setCell ⟨b.heap.size,3,U⟩ (Z g (nf+1) i)):=gZ b.heap.size [Z g (nf+1) i] 3 c;refine⟨n,⟨n.put 3 _,?_,by show nf+1=(h.fields++[(d.data.toList,f.data.toList)]).length;rw[aV,j.len];rfl⟩⟩;have r:=m.turns q (fun a e k=>by have:=(m.block a e).1;omega);have s:gT (Rq.nu (h.fields++[(d.data.toList,f.data.toList)]))=gT (Rq.nu h.fields)++[V d,V f]:=by
  rw[Rq.yO,qA];rfl
 show gU _ _ _ _ _ _ _ (gT (Rq.nu (h.fields++[(d.data.toList,f.data.toList)])));rw[s];exact r
structure Ye (w w5:X)(b:au)(f:Nat)(a3:aj)(c3 n3:Nat)(es3:List Rq.Ev)(p3:Nat)(body:au)(bo:aj)(bc:Nat)(over:Bool)(c:Nat)(wd:X):Prop where
 rs:wW w a3 c3 n3 es3 wd
 bytes:jZ wd (fun k=>w5.heap.size<=k) bo bc body
 below:Below w5.heap.size w5 wd
 PV:Rq.of b=(es3++Rq.some_ body++(Rq.rest f (b.drop p3) over c).1,(Rq.rest f (b.drop p3) over c).2)
theorem Br {w w5 g:X}{b:au}{f:Nat}{l:aj}{m n:Nat}{d:List Rq.Ev}{i:Nat}{body:au}{bo:aj}{o:Nat}{j:Bool}{c:Nat}(r:wW w l m n d w5)(p:iD g w5.heap.size 5 bo o body)(q:Below w5.heap.size w5 g)(k:Rq.of b=(d++Rq.some_ body++(Rq.rest f (b.drop i) j c).1,(Rq.rest f (b.drop i) j c).2)):Ye w w5 b f l m n d i body bo o j c g :=
 ⟨r.stay q,⟨p.wZ,fun _ a e=>(p.block a e).1⟩,q,k⟩
theorem zh {w5 a:X}(h:w5.grownBy a (gK U)):Below w5.heap.size w5 a:=(fI _ _).grown h (aL _) (fun q e=>by simp[gK] at e)
def Cw:List Nat->Code->Code
 | [],c=>c
 | 0::p,.seq x _=>Cw p x
 | _::p,.seq _ y=>Cw p y
 | _::p,.loop c=>Cw p c
 | _::p,.block _ c=>Cw p c
 | _::p,.scope c=>Cw p c
 | 0::p,.cond _ x _=>Cw p x
 | _::p,.cond _ _ y=>Cw p y
 | _,c=>c
noncomputable def aas:Code:=Cw [1,1,1,1,1,1,1,1,1,1,1,1,1,1,1,1,1,1,1,1,1,0,1] (Tryz.f19.body.getD .skip)
theorem MO (b:au)(B D cap:Nat)(w w5:X)(q a x n:Nat)(k:Int)(a3:aj)(c3:Nat)(es:List Rq.Ev)(h:Rq.Hd)(hb:iG w (M ⟨B,D,U⟩) cap b)(h9:b.length<=20000)(hlo:q+a<=b.length)(A8:Below w.heap.size w w5)(Yy:wW w a3 c3 (n+1) (es++[.head { h with length:=k }]) w5)(hln:Rq.len h=.inr k)(t:Rq.of b=(es++(Rq.goB (x+1) h (b.drop (q+a))).1,(Rq.goB (x+1) h (b.drop (q+a))).2))(Q0:Exit->Act->X->Prop)
 (x1 x2 x3 x4 x5 x7 x8 x9 x11 x12 x13 x17 x18 x19 x20 x21 x22 x23 x24 x25 x26 x27 x28 x29 x30 x31 x32 x33 x34 x35 x36 x37 x38 x39 x40 x41 x42 x43 x44 x45 x46 x47 x48 x49 x50 x51 x52 x53 x54 x55 x56 x57 x58 x59 x60 x61 x62 x63 x64 x65 x66 x67 x68 x69 x70 x71 x72 x73 x74 x75 x76 x77 x78 x79 x80 x81 x82 x83 x84 x85 x86 x87 x88 x89 x90 x91 x92 x93 x94 x95 x96 x97 x98 x99 G H L N O P afx S afy afz afA afB T W x114 x115 afC afD afE afF afG afH afI afJ afK afL afM afN ai8 ai9 aja ajb ajc ajd aje ajf ajg ajh aji ajj ajk ajl ajm ajn ajo ajp ajq ajr ajs x150 x151 x152 x153 ajt aju ajv x157 x158 x159 x160 ajw ajx ajy ajz ajA afO x167 x168 afP afQ afR afS afT afU afV afW afX afY afZ af0 af2 af3 af4 af5 af6 af7 af8:Value)
 (abq:∀(w':X) (y6 y8 y10 y15 y16 af9 aga agb agc agd agf agh agi agj agk agl agm agn agp agq agr ags agt agu agv agw y150 y151 y152 y153 agx agy agz y157 y158 y159 y160 agA agB agC agD agE:Value),(∃(p3:Nat) (body:au) (bo:aj) (bc:Nat) (ov:Bool) (c nb:Nat),y6=I J p3∧y10=I J (c:Int)∧y15=Z bo nb bc∧y16=.bool ov∧nb=body.length∧q+a<=p3∧(ov=true->c=0->p3<=b.length)∧Ye w w5 b (x+1) a3 c3 (n+1) (es++[.head { h with length:=k }]) p3 body bo bc ov c w')->Q0 .normal ⟨(List.toArray ((Z (M ⟨B,D,U⟩) b.length cap)::x1::x2::x3::x4::x5::(y6)::x7::(y8)::x9::(y10)::x11::x12::x13::(I J k)::(y15)::(y16)::x17::x18::x19::x20::x21::x22::x23::x24::x25::x26::x27::x28::x29::x30::x31::x32::x33::x34::x35::x36::x37::x38::x39::x40::x41::x42::x43::x44::x45::x46::x47::x48::x49::x50::x51::x52::x53::x54::x55::x56::x57::x58::x59::x60::x61::x62::x63::x64::x65::x66::x67::x68::x69::x70::x71::x72::x73::x74::x75::x76::x77::x78::x79::x80::x81::x82::x83::x84::x85::x86::x87::x88::x89::x90::x91::x92::x93::x94::x95::x96::x97::x98::x99::G::H::L::N::O::P::afx::S::afy::afz::afA::afB::T::W::x114::x115::afC::afD::afE::afF::afG::afH::afI::afJ::afK::afL::afM::afN::(.bool (decide (k≥0)))::(af9)::(aga)::(agb)::(agc)::(agd)::(agf)::(agh)::(agi)::(agj)::(agk)::(agl)::(agm)::(agn)::(agp)::(agq)::(agr)::(ags)::(agt)::(agu)::(agv)::(agw)::(y150)::(y151)::(y152)::(y153)::(agx)::(agy)::(agz)::(y157)::(y158)::(y159)::(y160)::(agA)::(agB)::(agC)::(agD)::(agE)::afO::x167::x168::afP::afQ::afR::afS::afT::afU::afV::afW::afX::afY::afZ::af0::af2::af3::af4::af5::af6::af7::af8::[])),[]⟩ w') :
 Code.wp prog aas Q0 ⟨(List.toArray ((Z (M ⟨B,D,U⟩) b.length cap)::x1::x2::x3::x4::x5::(I J ((q:Int)+a))::x7::x8::x9::(I J 0)::x11::x12::x13::(I J k)::(Z U 0 0)::(.bool true)::x17::x18::x19::x20::x21::x22::x23::x24::x25::x26::x27::x28::x29::x30::x31::x32::x33::x34::x35::x36::x37::x38::x39::x40::x41::x42::x43::x44::x45::x46::x47::x48::x49::x50::x51::x52::x53::x54::x55::x56::x57::x58::x59::x60::x61::x62::x63::x64::x65::x66::x67::x68::x69::x70::x71::x72::x73::x74::x75::x76::x77::x78::x79::x80::x81::x82::x83::x84::x85::x86::x87::x88::x89::x90::x91::x92::x93::x94::x95::x96::x97::x98::x99::G::H::L::N::O::P::afx::S::afy::afz::afA::afB::T::W::x114::x115::afC::afD::afE::afF::afG::afH::afI::afJ::afK::afL::afM::afN::(.bool (decide (k≥0)))::ai8::ai9::aja::ajb::ajc::ajd::aje::ajf::ajg::ajh::aji::ajj::ajk::ajl::ajm::ajn::ajo::ajp::ajq::ajr::ajs::x150::x151::x152::x153::ajt::aju::ajv::x157::x158::x159::x160::ajw::ajx::ajy::ajz::ajA::afO::x167::x168::afP::afQ::afR::afS::afT::afU::afV::afW::afX::afY::afZ::af0::af2::af3::af4::af5::af6::af7::af8::[])),[]⟩ w5:=by
 have HB:=H9 hb;have hcap:=hb.1;have Yf:=H9 A8;have FL:=H9 Yy;have HKr:=H9 (Rq.xC hln);have HX:=H9 abq;unfold Rq.goB at t;rw[hln] at t;simp only at t;have Yg:=H9 t;have m:Hid ((b.drop (q+a)).length=b.length-(q+a)):=bU;obtain⟨j0,hj0,hy0,hy1,hy2⟩:=info_parts jN;have Hj:=H9 hj0;have MZ:=H9 hy0;have M0:=H9 hy1;have M4:=H9 hy2
 clear hj0 hy0 hy1 hy2 hb A8 Yy hln abq t;conv=>arg 2;whnf
 by_cases p:0<=k
 . obtain⟨d,rfl⟩:=Int.eq_ofNat_of_zero_le p;have t1:decide ((d:Int)≥0)=true:=aH (by omega);have hk4:d<=4000:=by rcases HKr.o with e | e <;> omega
   have s:=Yg.o;rw[if_pos p] at s;by_cases hen:d<=b.length-(q+a)
   . have t2:decide ((b.length:Int)-((q:Int)+a)≥d)=true:=aH (by omega);rw[if_pos (by rw[m.o];simpa using hen)] at s;simp only[Int.toNat_natCast,eX] at s;have MP:Hid (Rq.of b=((es++[.head { h with length:=(d:Int) }])++Rq.some_ ((b.drop (q+a)).take d)++(Rq.rest (x+1) (b.drop (q+a+d)) true 0).1,(Rq.rest (x+1) (b.drop (q+a+d)) true 0).2)):=by
      unfold Hid;rw[s];simp
     clear s Yg p;have y:Hid (∀i u,u=cap-(q+a)->(cap≠q+a->i=M ⟨B,D+(q+a),U⟩)->iG w5 i u (((b.drop (q+a)).take d))):=fun i u hc ha=>by
      subst hc;have:=(HB.o.stay Yf.o).cut (gV:=i) (q+a) (q+a+d) (by omega) (by omega) (fun e=>by rw[ha e];simp[Addr.add_lit]);rw[show q+a+d-(q+a)=d by omega] at this;exact this
     by_cases r:cap=q+a
     . obtain rfl:d=0:=by omega
       subst r;go_wp2_with (at_builtin;refine iX rfl (.tmp 136) (.tmp 142) 31 rfl w5.heap.size 5 j0 underlying31 Hj.o MZ.o M0.o M4.o (l:=[]) rfl rfl (iD.nil _ _ _) (l2:=(b.drop (q+a)).take 0) rfl (by rw[bX,m.o];omega) (y.o _ _ (by omega) (fun e=>absurd rfl e)) (by omega) (aL _) ?_;intro f g w6 j Oq;have z:=H9 j;have Yt:=H9 Oq;clear j Oq)
       exact HX.o _ _ _ _ _ _ _ _ _ _ _ _ _ _ _ _ _ _ _ _ _ _ _ _ _ _ _ _ _ _ _ _ _ _ _ _ _ _ _ _ _ _ _ ⟨q+a+0,(b.drop (q+a)).take 0,f,g,true,0,0,by go_num,rfl,by simp,rfl,by simp,by omega,(fun _ _=>by omega),Br FL.o (by simpa using z.o) (zh Yt.o) MP.o⟩
     . go_wp2_with (at_builtin;refine iX rfl (.tmp 136) (.tmp 142) 31 rfl w5.heap.size 5 j0 underlying31 Hj.o MZ.o M0.o M4.o (l:=[]) rfl rfl (iD.nil _ _ _) (l2:=(b.drop (q+a)).take d) rfl (by rw[bX,m.o];omega) (y.o _ _ (by omega) (fun _=>by simp)) (by omega) (aL _) ?_;intro f g w6 j Oq;have z:=H9 j;have Yt:=H9 Oq;clear j Oq)
       exact HX.o _ _ _ _ _ _ _ _ _ _ _ _ _ _ _ _ _ _ _ _ _ _ _ _ _ _ _ _ _ _ _ _ _ _ _ _ _ _ _ _ _ _ _ ⟨q+a+d,(b.drop (q+a)).take d,f,g,true,0,d,by go_num,rfl,by simp,rfl,by rw[bX,m.o];omega,by omega,(fun _ _=>by omega),Br FL.o (by simpa using z.o) (zh Yt.o) MP.o⟩
   . have t2:decide ((b.length:Int)-((q:Int)+a)≥d)=F:=aI (by omega);rw[if_neg (by rw[m.o];simpa using hen)] at s;have MP:Hid (Rq.of b=((es++[.head { h with length:=(d:Int) }])++Rq.some_ (b.drop (q+a))++(Rq.rest (x+1) (b.drop b.length) F 0).1,(Rq.rest (x+1) (b.drop b.length) F 0).2)):=by
      unfold Hid;rw[s,dX];simp
     clear s Yg p;have y:Hid (∀i u,u=cap-(q+a)->(cap≠q+a->i=M ⟨B,D+(q+a),U⟩)->iG w5 i u (b.drop (q+a))):=fun i u hc ha=>by
      subst hc;have:=(HB.o.stay Yf.o).cut (gV:=i) (q+a) b.length (by omega) (by omega) (fun e=>by rw[ha e];simp[Addr.add_lit]);rw[dN (by rw[m.o];omega)] at this;exact this
     by_cases r:cap=q+a
     . have e1:b.length=q+a:=by omega
       have e3:b.length-(q+a)=0:=by omega
       have hnil:b.drop (q+a)=[]:=aJ (by omega);have agF:=H9 MP.o;rw[hnil] at agF;have HE1:=H9 e1;clear e1 hnil;subst r;go_wp2;exact HX.o _ _ _ _ _ _ _ _ _ _ _ _ _ _ _ _ _ _ _ _ _ _ _ _ _ _ _ _ _ _ _ _ _ _ _ _ _ _ _ _ _ _ _ ⟨b.length,[],U,0,F,0,0,rfl,rfl,rfl,rfl,rfl,by have:=HE1.o;omega,(fun _ _=>aL _),Br FL.o (iD.nil _ _ _) (fI _ _) agF.o⟩
     . go_wp2_with (at_builtin;refine iX rfl (.tmp 147) (.tmp 150) 31 rfl w5.heap.size 5 j0 underlying31 Hj.o MZ.o M0.o M4.o (l:=[]) rfl rfl (iD.nil _ _ _) (l2:=b.drop (q+a)) rfl m.o (y.o _ _ (by omega) (fun _=>by simp)) (by omega) (aL _) ?_;intro f g w6 j Oq;have z:=H9 j;have Yt:=H9 Oq;clear j Oq)
       exact HX.o _ _ _ _ _ _ _ _ _ _ _ _ _ _ _ _ _ _ _ _ _ _ _ _ _ _ _ _ _ _ _ _ _ _ _ _ _ _ _ _ _ _ _ ⟨b.length,b.drop (q+a),f,g,F,0,b.length-(q+a),rfl,rfl,by simp,rfl,m.o.symm,by omega,(fun _ _=>aL _),Br FL.o (by simpa using z.o) (zh Yt.o) MP.o⟩
 . obtain rfl:k=-1:=by rcases HKr.o with e | e <;> omega
   have t1:decide ((-1:Int)≥0)=F:=by decide
   have s:=Yg.o;rw[if_neg p,eX] at s;have MP:Hid (Rq.of b=((es++[.head { h with length:=-1 }])++Rq.some_ (Ck.of (b.drop (q+a))).body++(Rq.rest (x+1) (b.drop (q+a+(Ck.of (b.drop (q+a))).used)) (Ck.of (b.drop (q+a))).over (Ck.of (b.drop (q+a))).code).1,(Rq.rest (x+1) (b.drop (q+a+(Ck.of (b.drop (q+a))).used)) (Ck.of (b.drop (q+a))).over (Ck.of (b.drop (q+a))).code).2)):=by
    unfold Hid;rw[s];simp
   have HUs:Hid ((Ck.of (b.drop (q+a))).over=true->(Ck.of (b.drop (q+a))).code=0->q+a+(Ck.of (b.drop (q+a))).used<=b.length):=fun _ _=>by
    have:=Ck.Q8 (b.drop (q+a));rw[m.o] at this;omega
   have hus:=Ck.Q8 (b.drop (q+a));rw[m.o] at hus;have HCh:Hid (∀i u,u=cap-(q+a)->(cap≠q+a->i=M ⟨B,D+(q+a),U⟩)->Calls prog 46 #[Z i (b.length-(q+a)) u] w5 fun e w'=>lu w5 (b.drop (q+a)) e w'):=fun i u hc ha=>by
    subst hc;have:=(HB.o.stay Yf.o).cut (gV:=i) (q+a) b.length (by omega) (by omega) (fun e=>by rw[ha e];simp[Addr.add_lit]);rw[dN (by rw[m.o];omega)] at this;have h2:=JZ (b.drop (q+a)) i (cap-(q+a)) w5 this (by rw[m.o];omega);rw[m.o] at h2;exact h2
   clear s Yg p;by_cases r:cap=q+a
   . have e3:b.length-(q+a)=0:=by omega
     have M7:=H9 (HCh.o (M ⟨B,D,U⟩) 0 (by omega) (fun e=>absurd r e));rw[e3] at M7;unfold lu at M7;generalize Ck.of (b.drop (q+a))=C at *;subst r;go_wp2_with fail
     refine M7.o.mono ?_;rintro e w6 ⟨f,g,rfl,j,v⟩;have z:=H9 j;have vO:=H9 v
     clear j v;go_wp2;exact HX.o _ _ _ _ _ _ _ _ _ _ _ _ _ _ _ _ _ _ _ _ _ _ _ _ _ _ _ _ _ _ _ _ _ _ _ _ _ _ _ _ _ _ _ ⟨q+a+C.used,C.body,f,g,C.over,C.code,C.body.length,by go_num,rfl,rfl,rfl,rfl,by omega,HUs.o,Br FL.o z.o vO.o MP.o⟩
   . have M7:=H9 (HCh.o (M ⟨B,D+(q+a),U⟩) (cap-(q+a)) rfl (fun _=>rfl));unfold lu at M7;generalize Ck.of (b.drop (q+a))=C at *;go_wp2_with fail
     refine M7.o.mono ?_;rintro e w6 ⟨f,g,rfl,j,v⟩;have z:=H9 j;have vO:=H9 v
     clear j v;go_wp2;exact HX.o _ _ _ _ _ _ _ _ _ _ _ _ _ _ _ _ _ _ _ _ _ _ _ _ _ _ _ _ _ _ _ _ _ _ _ _ _ _ _ _ _ _ _ ⟨q+a+C.used,C.body,f,g,C.over,C.code,C.body.length,by go_num,rfl,rfl,rfl,rfl,by omega,HUs.o,Br FL.o z.o vO.o MP.o⟩
theorem Gp (b:aj)(cap:Nat)(w:X)(f:iG w b cap []):
 Calls prog 19 #[Z b 0 cap] w fun e w'=>∃a2 g,e=Y (.tuple #[Z a2 (Rq.of []).1.length g,.bool (Rq.of []).2])∧FT w' a2 g ((Rq.of []).1.map Rq.Ev.d)∧Below w.heap.size w w':=by
 have i:=f.2.1;clear f;have j:Hid (Below w.heap.size w (w.alloc (K #[Z U 0 0] 58))):=(fI _ _).alloc (aL _) _;have m:(w.alloc (K #[Z U 0 0] 58)).cell? ⟨w.heap.size,0,U⟩=M (Z U 0 0):=World.cell?_alloc_mark w _ _ _ 0;by_cases k:cap=0
 . subst k;go_enter func19,ntmps19;go_wp2;refine wp_loop_rounds 1 ?_;rw[rounds_succ];go_wp2_with fail
   refine(Ak _ _ (fun _=>rfl) _).mono ?_;rintro e l ⟨rfl,c⟩;subst c;go_wp2;(try simp only[Exit.inBlock,Exit.then]);go_ret2;exact⟨U,0,rfl,FT.nil _,j.o⟩
 . obtain⟨a,rfl⟩:∃a,b=M a:=by
    cases b with
    | none=>exact absurd (i rfl) k
    | some a=>exact⟨a,rfl⟩
   clear i;go_enter func19,ntmps19;go_wp2;refine wp_loop_rounds 1 ?_;rw[rounds_succ];go_wp2_with fail
   refine(Ak _ _ (fun e=>by cases e) _).mono ?_;rintro e l ⟨rfl,c⟩;subst c;go_wp2;(try simp only[Exit.inBlock,Exit.then]);go_ret2;exact⟨U,0,rfl,FT.nil _,j.o⟩
end Go.Proofs.YtjmndjmhjleabaaGreatDoor