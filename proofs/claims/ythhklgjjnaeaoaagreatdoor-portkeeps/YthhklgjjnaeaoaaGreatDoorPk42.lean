/- Small texts, one behind the other: GaA, SqH, StB, SpN, SqI, SqJ, StC, StD, StE, StF, FmD, FmE, FmF, FmG, FmH, FmI, FmJ, StG, StH, RqCln, RqBkA, RfReqA, RfReqR, RfReqBd, RfReqN. -/
import Derived.Test.YthhklgjjnaeaoaaGreatDoorRqA
import Derived.Test.YthhklgjjnaeaoaaGreatDoorPk39
import Derived.Test.YthhklgjjnaeaoaaGreatDoorPk38
import Derived.Test.YthhklgjjnaeaoaaGreatDoorPk35
import Derived.Test.YthhklgjjnaeaoaaGreatDoorPk34
open Go.Value renaming int->I,string->V,slice->Z,pointer->Q
open Go.IntKind renaming i64->J
open Go.Obj renaming cells->K
open Go.Ending renaming returned->Y
open Option renaming none->U,some->M
open Bool renaming false->F
open Or renaming inl->A,inr->R
open Go renaming World->X
set_option maxHeartbeats 4000000
set_option maxRecDepth 100000
open Go.Proofs.Tryz
namespace Go.Proofs.YthhklgjjnaeaoaaGreatDoor
open Go.RowKit
structure Qm where
 gp:Nat
 fo:ak
 fZ:Nat
 bo:ak
 fU:Nat
def UA (c:Gt.Cn)(x:Qm):List Value:=[Q (M ⟨x.gp,0,U⟩),V ⟨c.hd.method.toArray⟩,V ⟨c.hd.target.toArray⟩,I J (c.hd.minor:Int),Z x.fo c.hd.fields.length x.fZ,I J c.hd.length,Z x.bo c.body.length x.fU]
def Qn (gs:Nat)(v:Nat->List Value):List Value:=Q (M ⟨gs,0,U⟩)::(v 0++(v 1++(v 2++v 3)))
def xW (c:Nat->Gt.Cn)(x:Nat->Qm):Nat->List Value:=fun k=>UA (c k) (x k)
theorem seven {l:List Value}(h:l.length=7):∃a b a2 c d e f,l=[a,b,a2,c,d,e,f]:=by
 match l,h with
 | [a,b,a2,c,d,e,f],_=>exact⟨a,b,a2,c,d,e,f,rfl⟩
theorem abw (gs:Nat)(v:Nat->List Value)(a:∀k,k<4->(v k).length=7){k:Nat}(b:k<4){j:Nat}(c:j<7):(Qn gs v).toArray[1+k*7+j]? = (v k)[j]?:=by grind [Qn]
theorem Zh (gs:Nat)(v:Nat->List Value)(a:∀k,k<4->(v k).length=7){k:Nat}(f:k<4){j:Nat}(g:j<7)(u:Value):(Qn gs v).set (1+k*7+j) u=Qn gs (upd v k ((v k).set j u)):=by
 obtain⟨i,l,m,n,o,p,q,b⟩:=seven (a 0 (by omega));obtain⟨r,s,t,w,x,y,z,c⟩:=seven (a 1 (by omega));obtain⟨B,C,D,G,H,L,N,d⟩:=seven (a 2 (by omega));obtain⟨S,T,W,s3,s4,s5,s6,e⟩:=seven (a 3 (by omega));obtain rfl | rfl | rfl | rfl:k=0∨k=1∨k=2∨k=3:=by omega
 . show _=Q (M ⟨gs,0,U⟩)::((v 0).set j u++(v 1++(v 2++v 3)));unfold Qn;rw[b,c,d,e];obtain rfl | rfl | rfl | rfl | rfl | rfl | rfl:j=0∨j=1∨j=2∨j=3∨j=4∨j=5∨j=6:=by omega
   all_goals rfl
 . show _=Q (M ⟨gs,0,U⟩)::(v 0++((v 1).set j u++(v 2++v 3)));unfold Qn;rw[b,c,d,e];obtain rfl | rfl | rfl | rfl | rfl | rfl | rfl:j=0∨j=1∨j=2∨j=3∨j=4∨j=5∨j=6:=by omega
   all_goals rfl
 . show _=Q (M ⟨gs,0,U⟩)::(v 0++(v 1++((v 2).set j u++v 3)));unfold Qn;rw[b,c,d,e];obtain rfl | rfl | rfl | rfl | rfl | rfl | rfl:j=0∨j=1∨j=2∨j=3∨j=4∨j=5∨j=6:=by omega
   all_goals rfl
 . show _=Q (M ⟨gs,0,U⟩)::(v 0++(v 1++(v 2++(v 3).set j u)));unfold Qn;rw[b,c,d,e];obtain rfl | rfl | rfl | rfl | rfl | rfl | rfl:j=0∨j=1∨j=2∨j=3∨j=4∨j=5∨j=6:=by omega
   all_goals rfl
theorem zl (c:Nat->Gt.Cn)(x:Nat->Qm)(k:Nat)(a:Gt.Cn)(b:Qm):xW (upd c k a) (upd x k b)=upd (xW c x) k (UA a b):=by
 funext i;unfold xW upd;split <;> rfl
structure jU (w:X)(g gs:Nat)(v:Nat->List Value):Prop where
 row:w.heap[g]? = M (K (Qn gs v).toArray 89 (0,0))
 seven:∀k,k<4->(v k).length=7
theorem jU.store {w:X}{g gs:Nat}{v:Nat->List Value}(h:jU w g gs v):w.cell? ⟨g,0,U⟩=M (Q (M ⟨gs,0,U⟩)):=eZ w g 0 _ _ _ h.row
theorem jU.at_ {w:X}{g gs:Nat}{v:Nat->List Value}(h:jU w g gs v){k:Nat}(a:k<4){j:Nat}(b:j<7){u:Value}(c:(v k)[j]? = M u):w.cell? ⟨g,1+k*7+j,U⟩=M u:=by
 rw[eZ w g _ _ _ _ h.row,abw gs v h.seven a b];exact c
theorem jU.fz {w:X}{g gs:Nat}{v:Nat->List Value}(h:jU w g gs v)(j:Nat):w.frozen? ⟨g,j,U⟩=F:=fq w g j _ _ h.row
theorem jU.lt {w:X}{g gs:Nat}{v:Nat->List Value}(h:jU w g gs v):g<w.heap.size:=(aL.1 h.row).1
theorem jU.set {w:X}{g gs:Nat}{v:Nat->List Value}(h:jU w g gs v){k:Nat}(a:k<4){j:Nat}(b:j<7)(u:Value):jU (w.setCell ⟨g,1+k*7+j,U⟩ u) g gs (upd v k ((v k).set j u)):=by
 refine⟨?_,fun i c=>?_⟩
 . rw[fu w g _ _ _ _ h.row];congr 2;rw[<-Zh gs v h.seven a b];simp
 . unfold upd;split
   . rw[aP];exact h.seven k a
   . exact h.seven i c
inductive Ae
 | row
 | iX
 | rq (k:Nat)
 | fl (k:Nat)
 | bd (k:Nat)
 | ret
 | out
def Cv (g gs:Nat)(s:Sr.Sh)(v:Nat->List Value)(n:Nat)(c:Nat->Gt.Cn)(x:Nat->Qm)(z:Nat->Ob)(o:Ob):Ae->Ob
 | .row=>fun w S=>jU w g gs v∧S g
 | .iX=>fun w S=>gX w S gs s
 | .rq k=>fun w S=>k<n->jq w S (x k).gp (c k).rq
 | .fl k=>fun w S=>(k<n->nN w S (x k).fo (x k).fZ (c k).hd.fields.length (gG (Rq.nu (c k).hd.fields)))∧z k w S
 | .bd k=>fun w S=>k<n->gK w S 5 (x k).bo (x k).fU (c k).body
 | .ret=>o
 | .out=>fun _ _=>True
theorem lI {g gs:Nat}{s:Sr.Sh}{v:Nat->List Value}{n:Nat}{c:Nat->Gt.Cn}{x:Nat->Qm}{z:Nat->Ob}{o:Ob}(f:∀k,kE (z k))(i:kE o):∀d,kE (Cv g gs s v n c x z o d)
 | .row=>⟨fun h e a=>⟨⟨e.row h.1.row (a g h.2),h.1.seven⟩,h.2⟩,fun h a=>⟨h.1,a g h.1.lt h.2⟩⟩
 | .iX=>⟨fun h e a=>gX.turns h e a,fun h a=>gX.mono h a⟩
 | .rq _=>⟨fun h e a b=>(h b).turns e a,fun h a b=>(h b).mono a⟩
 | .fl k=>⟨fun h e a=>⟨fun b=>(h.1 b).turns e a,(f k).turns h.2 e a⟩,fun h a=>⟨fun b=>(h.1 b).mono a,(f k).mono h.2 a⟩⟩
 | .bd _=>⟨fun h e a b=>(h b).turns e a,fun h a b=>(h b).mono a⟩
 | .ret=>i
 | .out=>kE.kC
def KI:Nat->Ob:=fun _ _ _=>True
def zQ:Ob:=fun _ _=>True
def jf (w:X)(S:Nat->Prop)(g gs:Nat)(s:Sr.Sh)(c:Nat->Gt.Cn):Prop:=∃κ x,Held (Cv g gs s (xW c x) 4 c x KI zQ) κ w∧∀k,κ k≠.out->S k
section
variable {w w':X} {S S':Nat->Prop} {g gs:Nat} {s:Sr.Sh} {c:Nat->Gt.Cn}
theorem jf.turns (h:jf w S g gs s c)(f:Turns S' w w')(i:∀k,S k->¬S' k):jf w' S g gs s c:=by
 obtain⟨j,x,l,a⟩:=h;refine⟨j,x,fun d=>?_,a⟩;by_cases b:d=.out
 . subst b;exact trivial
 . exact(lI (fun _=>kE.kC) kE.kC d).turns (l d) f (fun k e=>i k (a k (by rw[e];exact b)))
theorem jf.stay (h:jf w S g gs s c)(a:Below w.heap.size w w'):jf w' S g gs s c:=h.turns (Turns.of_below (S:=fun _=>False) a) (fun _ _ e=>e)
theorem jf.mono (h:jf w S g gs s c)(f:∀k,k<w.heap.size->S k->S' k):jf w S' g gs s c:=by
 obtain⟨i,x,j,l⟩:=h;refine⟨iC i w.heap.size .out,x,fun d=>?_,fun k a=>?_⟩
 . by_cases m:d=.out
   . subst m;exact trivial
   . exact(lI (fun _=>kE.kC) kE.kC d).mono (j d) (fun k a e=>(iq a).trans e)
 . rcases aT k w.heap.size with b | b
   . rw[iq b] at a;exact f k b (l k a)
   . exact absurd (nI b) a
end
theorem SN (a b:ay):(a.toList==b.toList)=decide (a.data.toList=b.data.toList):=by
 rw[Lib.toList_data,Lib.toList_data,aH];simp
theorem ny.FR {w:X}{S:Nat->Prop}{a c d g:Nat}{s:Sp.St}(h:ny w S a c d g s)(v:Int):ny (w.setCell ⟨g,1,U⟩ (I J v)) S a c d g ⟨s.l,v⟩∧Turns (fun k=>k=g) w (w.setCell ⟨g,1,U⟩ (I J v)):=by
 obtain⟨i,b,j,m,n⟩:=h;have f:Turns (fun k=>k=g) w (w.setCell ⟨g,1,U⟩ (I J v)):=Turns.setCell (fun k=>k=g) w _ _ rfl;exact⟨⟨i,b,fu w g 1 _ a _ j,m,n.turns f (fun k e o=>e.2 o)⟩,f⟩
theorem GI (s:Sp.St)(S:Nat->Prop)(g:Nat)(w:X)(h:gL w S g s)(k:0<=s.last)(l:s.last<=1000000):
 Calls prog 220 #[Q (M ⟨g,0,U⟩)] w fun e w'=>e=Y (I J (s.last+1))∧w'=w:=by
 obtain⟨m,a,b,n,c,d,f,i,j⟩:=h.cells;clear j f i b c d h;generalize s.last=t at *;go_enter func220,ntmps220;go_wp2;go_ret;exact⟨rfl,rfl⟩
structure Made (S:Nat->Prop)(tO:Nat)(w:X)(g:Nat)(r:Sp.St×Int×Nat)(e:Ending)(w':X):Prop where
 ret:e=Y (.tuple #[I J r.2.1,I J (r.2.2:Int)])
 at_:ny w' (gB S w) tO 92 5 g r.1
 turns:Turns S w w'
theorem Made.none_ {w w':X}{S:Nat->Prop}{a g:Nat}{s:Sp.St}{c:Nat}(h:ny w S a 92 5 g s)(b:Below w.heap.size w w'){r:Sp.St×Int×Nat}(d:r=(s,0,c)):Made S a w g r (Y (.tuple #[I J 0,I J (c:Int)])) w':=by
 subst d;exact⟨rfl,(h.stay b).mono (fun k _ e=>A e),Turns.of_below b⟩
theorem Bz (s:Sp.St)(S:Nat->Prop)(g:Nat)(c:Int)(m:ay)(w:X)(h:gL w S g s)(ok:Sp.Ok s)(hl:s.last<=1000000)(hm:m.size<=1000000):
 Calls prog 212 #[Q (M ⟨g,0,U⟩),I J c,V m] w (Made S 124 w g (Sp.create s c m)):=by
 have hN:=ok.few;have hl0:=ok.CJ;obtain⟨ao,cap,c0,c1,f0,f1,hg,hS,hU⟩:=h.cells;have hcap:=hU.cap_;by_cases L:c < -1
 . have y:Made S 124 w g (Sp.create s c m) (Y (.tuple #[I J 0,I J (1:Nat)])) w:=Made.none_ h (eY _ _) (by unfold Sp.create;rw[if_pos L]);go_enter func212,ntmps212;go_wp2;go_ret2;exact y
 . have n1:decide (c < -1)=F:=by rw[bO];exact L
   by_cases h2:2000<c
   . have y:Made S 124 w g (Sp.create s c m) (Y (.tuple #[I J 0,I J (4:Nat)])) w:=Made.none_ h (eY _ _) (by unfold Sp.create;rw[if_neg L,if_pos (A h2)]);have n2:decide (c > 2000)=true:=by rw[bP];exact h2
     go_enter func212,ntmps212;go_wp2;go_ret2;exact y
   . have n2:decide (c > 2000)=F:=by rw[bO];exact h2
     by_cases h3:100<m.size
     . have y:Made S 124 w g (Sp.create s c m) (Y (.tuple #[I J 0,I J (4:Nat)])) w:=Made.none_ h (eY _ _) (by unfold Sp.create;rw[if_neg L,if_pos (R h3)]);have n3:decide ((m.size:Int) > 100)=true:=by rw[bP];omega
       go_enter func212,ntmps212;go_wp2;go_ret2;exact y
     . have n3:decide ((m.size:Int) > 100)=F:=by rw[bO];omega
       have e2:¬(2000<c∨100<m.size):=by omega
       have HV:=kJ m w (by unfold maxLen;omega);cases hv:Ch.gV m.data.toList with
       | false =>
         rw[hv] at HV;have y:Made S 124 w g (Sp.create s c m) (Y (.tuple #[I J 0,I J (3:Nat)])) w:=Made.none_ h (eY _ _) (by unfold Sp.create;rw[if_neg L,if_neg e2,if_pos (A hv)]);go_enter func212,ntmps212;go_wp2_with (go_at_call 238;refine HV.mono ?_;rintro e z ⟨rfl,rfl⟩)
         go_ret2;exact y
       | true =>
         rw[hv] at HV;have Ct:=sN m w (by omega);have G:=SN ⟨(Lib.trimS m.data.toList Ch.ws).toArray⟩ m;obtain⟨T,hT⟩:∃T:ay,T=⟨(Lib.trimS m.data.toList Ch.ws).toArray⟩:=⟨_,rfl⟩;have hTd:T.data.toList=Lib.trimS m.data.toList Ch.ws:=by rw[hT]
         rw[<-hT] at Ct G;rw[hTd] at G;by_cases h4:Lib.trimS m.data.toList Ch.ws=m.data.toList
         . rw[aI h4] at G;have e3:¬(Ch.gV m.data.toList=F∨Lib.trimS m.data.toList Ch.ws≠m.data.toList):=by rw[hv];simpa using h4
           by_cases h5:12<=s.l.length
           . have y:∀W,Below w.heap.size w W->W.cell? ⟨g,0,U⟩=M (Z ao s.l.length cap)∧Made S 124 w g (Sp.create s c m) (Y (.tuple #[I J 0,I J (8:Nat)])) W:=fun W D=>⟨by rw[D.cell (p:=⟨g,0,U⟩) h.lt];exact c0,Made.none_ h D (by unfold Sp.create;rw[if_neg L,if_neg e2,if_neg e3,if_pos h5])⟩;have n5:decide ((s.l.length:Int)≥12)=true:=by rw[bP];omega
             go_enter func212,ntmps212;go_wp2_with (first | (go_at_call 238;refine HV.mono ?_;rintro e z ⟨rfl,rfl⟩) | (go_at_call 239;refine Ct.mono ?_;rintro e z ⟨rfl,B⟩;obtain⟨d0,hd⟩:=y z B;have HD:=H9 hd;clear hd B))
             go_ret2;exact HD.o
           . have n5:decide ((s.l.length:Int)≥12)=F:=by rw[bO];omega
             have Lf:Hid (Sp.create s c m=(⟨s.l++[⟨s.last+1,c,m,[],0⟩],s.last+1⟩,s.last+1,0)):=by unfold Sp.create;rw[if_neg L,if_neg e2,if_neg e3,if_neg h5];exact rfl
             have QA:∀W,Below w.heap.size w W->Calls prog 220 #[Q (M ⟨g,0,U⟩)] W fun e w'=>e=Y (I J (s.last+1))∧w'=W:=fun W D=>GI s S g W (h.stay D) hl0 hl;have uT:=fun W=>kW m W hm;have HC:∀W,Below w.heap.size w W->W.cell? ⟨g,0,U⟩=M (Z ao s.l.length cap)∧W.cell? ⟨g,1,U⟩=M (I J s.last)∧W.frozen? ⟨g,1,U⟩=F:=fun W D=>⟨by rw[D.cell (p:=⟨g,0,U⟩) h.lt];exact c0,by rw[D.cell (p:=⟨g,1,U⟩) h.lt];exact c1,by rw[D.frozen (p:=⟨g,1,U⟩) h.lt];exact f1⟩;go_enter func212,ntmps212;go_wp2_with (first | (go_at_call 238;refine HV.mono ?_;rintro e z ⟨rfl,hw⟩;rw[hw];clear hw) | (go_at_call 239;refine Ct.mono ?_;rintro e z ⟨rfl,B⟩;obtain⟨d0,d1,d2⟩:=HC z B;have HB:=H9 B;clear B) | (go_at_call 220;refine(QA _ HB.o).mono ?_;rintro e wn ⟨rfl,hw⟩;rw[hw];clear hw))
             obtain⟨hs2,ht2⟩:=(h.stay HB.o).FR (s.last+1);have jN:Turns S w (z.setCell ⟨g,1,U⟩ (I J (s.last+1))):=(Turns.of_below HB.o).trans (ht2.mono (fun k e=>by subst e;exact h.cells.choose_spec.choose_spec.2.2.2.2.2.1)) (fun _ e _=>e);generalize hw3:z.setCell ⟨g,1,U⟩ (I J (s.last+1))=b at *;obtain⟨N,gZ,c0,c1,f0,f1,hg3,GJ,hU3⟩:=hs2.cells;have hlt:=hs2.lt;have xU:=hg3;have HU3:=H9 hU3
             simp only at c0 c1;have ad1:Calls prog 113 #[V m] (b.alloc (K #[I J 0,I J 0,V ⟨#[]⟩,Z U 0 0,I J 0] 92)).drew fun e d=>e=Y (V m)∧Below b.heap.size b d∧d.heap[b.heap.size]? = M (K #[I J 0,I J 0,V ⟨#[]⟩,Z U 0 0,I J 0] 92 (0,0)):=(uT _).mono fun e d ⟨he,f⟩=>by
              refine⟨he,(((eY _ b).alloc (aM _) _).trans (gy _ _)).trans (f.mono (by show b.heap.size<=(b.alloc _).heap.size;rw[fG];omega)),?_⟩;rw[f.block b.heap.size (by show b.heap.size<(b.alloc _).heap.size;rw[fG];omega)];exact eX b _
             have ad2:Calls prog 113 #[V m] b.drew fun e d=>e=Y (V m)∧Below b.heap.size b d:=(uT _).mono fun e d ⟨he,f⟩=>⟨he,(gy _ _).trans f⟩;have aj2:¬b.heap.size=g:=by omega
             have air:¬g=b.heap.size:=by omega
             clear uT;have HMt:∀d,Below b.heap.size b d->d.heap[b.heap.size]? = M (K #[I J 0,I J 0,V ⟨#[]⟩,Z U 0 0,I J 0] 92 (0,0))->Below b.heap.size b (((((d.setCell ⟨b.heap.size,0,U⟩ (I J (s.last+1))).setCell ⟨b.heap.size,1,U⟩ (I J c)).setCell ⟨b.heap.size,2,U⟩ (V m)).setCell ⟨b.heap.size,3,U⟩ (Z U 0 0)).setCell ⟨b.heap.size,4,U⟩ (I J 0))∧(((((d.setCell ⟨b.heap.size,0,U⟩ (I J (s.last+1))).setCell ⟨b.heap.size,1,U⟩ (I J c)).setCell ⟨b.heap.size,2,U⟩ (V m)).setCell ⟨b.heap.size,3,U⟩ (Z U 0 0)).setCell ⟨b.heap.size,4,U⟩ (I J 0)).heap[b.heap.size]? = M (K #[I J (s.last+1),I J c,V m,Z U 0 0,I J 0] 92 (0,0)):=fun d B hr=>by
              refine⟨((((B.setCell (aM _) _).setCell (aM _) _).setCell (aM _) _).setCell (aM _) _).setCell (aM _) _,?_⟩;exact fu _ _ 4 _ _ _ (fu _ _ 3 _ _ _ (fu _ _ 2 _ _ _ (fu _ _ 1 _ _ _ (fu _ _ 0 _ _ _ hr))))
             go_cut [8] (fun t wd=>∃nb,t=Q (M ⟨nb,0,U⟩)∧b.heap.size<=nb∧Below b.heap.size b wd∧wd.heap[nb]? = M (K #[I J (s.last+1),I J c,V m,Z U 0 0,I J 0] 92 (0,0)))
             case first =>
              go_region_held3 (fun w'=>w'.cell? ⟨g,1,U⟩=M (I J (s.last+1))) (go_keep) (first
               | (go_at_call 113;refine ad1.mono ?_;rintro e d ⟨rfl,i,v⟩;have c1':d.cell? ⟨g,1,U⟩=M (I J (s.last+1)):=(i.cell (p:=⟨g,1,U⟩) hlt).trans c1;have z0:=eZ d _ 0 _ _ _ v;have z1:=eZ d _ 1 _ _ _ v;have z2:=eZ d _ 2 _ _ _ v;have z3:=eZ d _ 3 _ _ _ v;have z4:=eZ d _ 4 _ _ _ v;have y0:=fq d _ 0 _ _ v;have y1:=fq d _ 1 _ _ v;have y2:=fq d _ 2 _ _ v;have y3:=fq d _ 3 _ _ v;have y4:=fq d _ 4 _ _ v;simp at z0 z1 z2 z3 z4;have kr:=H9 i;have HR4:=H9 v;clear i v)
               | (go_at_call 113;refine ad2.mono ?_;rintro e d ⟨rfl,i⟩;have c1':d.cell? ⟨g,1,U⟩=M (I J (s.last+1)):=(i.cell (p:=⟨g,1,U⟩) hlt).trans c1;have aj3:¬d.heap.size=g:=(by have:=i.size;omega);have ais:¬g=d.heap.size:=(by have:=i.size;omega);have kr:=H9 i;clear i))
              all_goals go_wp2
              all_goals go_meet
              . exact⟨_,rfl,kr.o.size,kr.o.alloc kr.o.size _,eX d _⟩
              . exact⟨_,rfl,aM _,HMt d kr.o HR4.o⟩
             case rest =>
              obtain⟨nb,rfl,hnb,f,q⟩:=hcut;have hU4:=HU3.o.stay f;obtain⟨xs,hO,hP⟩:=hU4.push (K #[I J (s.last+1),I J c,V m,Z U 0 0,I J 0] 92);have H:wc.heap[g]? = M _:=(f.block g hlt).trans xU;have jc:=(eY _ wc).alloc (aM _) (K #[I J (s.last+1),I J c,V m,Z U 0 0,I J 0] 92);have c0a:(wc.alloc (K #[I J (s.last+1),I J c,V m,Z U 0 0,I J 0] 92)).cell? ⟨g,0,U⟩=M (Z N s.l.length gZ):=(jc.cell (p:=⟨g,0,U⟩) (by show g<wc.heap.size;have:=f.size;omega)).trans (eZ wc g 0 _ _ _ H);have c0b:wc.cell? ⟨g,0,U⟩=M (Z N s.l.length gZ):=eZ wc g 0 _ _ _ H;have z0:wc.cell? ⟨nb,0,U⟩=M (I J (s.last+1)):=eZ wc nb 0 _ _ _ q;have z1:wc.cell? ⟨nb,1,U⟩=M (I J c):=eZ wc nb 1 _ _ _ q;have z2:wc.cell? ⟨nb,2,U⟩=M (V m):=eZ wc nb 2 _ _ _ q;have z3:wc.cell? ⟨nb,3,U⟩=M (Z U 0 0):=eZ wc nb 3 _ _ _ q;have z4:wc.cell? ⟨nb,4,U⟩=M (I J 0):=eZ wc nb 4 _ _ _ q;have abK:=f.size;have hbl:∀k,fV N=M k->(S k∧k≠g)∧k<b.heap.size:=fun k e=>by
               obtain⟨us,_,h2,h3,_⟩:=HU3.o;cases N with
               | none=>cases e
               | some a=>injection e with e;subst e;exact⟨h3 a rfl,(h2.block a rfl).2⟩
              have aj4:nb<wc.heap.size:=(aL.1 q).1;have HK:∀x,(wc.alloc (K #[I J (s.last+1),I J c,V m,Z U 0 0,I J 0] 92)).drew.grownBy x (Value.slice N s.l.length gZ).ownBlock->x.heap[g]? = M (K #[Z N s.l.length gZ,I J (s.last+1)] 124 (0,0))∧x.heap[nb]? = M (K #[I J (s.last+1),I J c,V m,Z U 0 0,I J 0] 92 (0,0)):=fun x hG=>by
               rw[gD] at hG;refine⟨?_,?_⟩
               . rw[hG.block g (by show g<(wc.alloc _).heap.size;rw[fG];omega) (fun e=>(hbl g e.symm).1.2 rfl)];exact(jc.block g (by omega)).trans H
               . rw[hG.block nb (by show nb<(wc.alloc _).heap.size;rw[fG];omega) (fun e=>by have:=(hbl nb e.symm).2;omega)];exact(jc.block nb (by omega)).trans q
              have HO:=gH.stay hO (gy _ _);have WT:∀j u,(uK ⟨s.last+1,c,m,[],0⟩ ⟨U,0⟩)[j]? = M u->(wc.alloc (K #[I J (s.last+1),I J c,V m,Z U 0 0,I J 0] 92)).drew.cell? (Addr.add ⟨wc.heap.size,0,U⟩ j)=M u:=fun j u hu=>by
               rw[fQ,aZ];show(wc.alloc _).cell? _=_;rw[World.cell?_alloc_at _ _ _ _ rfl,dD];exact hu
              obtain⟨i0,hi0,hz0,hz1,hz2⟩:=info_parts IZ;have Hi:=hi0;have kY:=H9 hz0;have kT:=H9 hz1;have kZ:=H9 hz2
              have HN:s.l.length+1<=maxLen∧(s.l.length+1)*64<=140737488355328:=⟨by unfold maxLen;omega,by omega⟩;have hng:¬nb=g:=by omega
              have aj5:¬g=nb:=by omega
              clear hi0 hz0 hz1 hz2 hO   jc H hU4  q HMt ad1 ad2;go_wp2;go_region_law
               ((refine step_append_lies _ (by rfl) _ _ _ (by rfl) 0 92 i0 (.agg #[I J 0,I J 0,V ⟨#[]⟩,Z U 0 0,I J 0]) 5 64 underlying40 Hi kY.o kT.o kZ.o (by rfl) (by decide) (Z N s.l.length gZ) s.l.length _ (by rfl) HO ⟨wc.heap.size,0,U⟩ 1 1 (uK ⟨s.last+1,c,m,[],0⟩ ⟨U,0⟩) (by rfl) (by rfl) WT (Qh _ _) (by decide) HN.1 HN.2 (aA _) (wc.heap.size+1) (by simp) ?_;intro g5 cap5 x C r qg agt;obtain⟨r5,r6⟩:=HK _ r;have q0:x.cell? ⟨g,0,U⟩=M (Z N s.l.length gZ):=eZ x g 0 _ _ _ r5;have q1:x.frozen? ⟨g,0,U⟩=F:=fq x g 0 _ _ r5;have q2:x.cell? ⟨nb,0,U⟩=M (I J (s.last+1)):=eZ x nb 0 _ _ _ r6;have HR5:=H9 r5;have HG5:=H9 r;have zk:=H9 C;have HA5:=H9 qg;clear r C qg r5 r6 agt))
              all_goals
               go_wp2;go_ret2;have hG:=HG5.o;have hat:=HA5.o;rw[gD] at hG hat;obtain⟨r1,r2⟩:=hP (M ⟨g5,0,U⟩) cap5 x ⟨s.last+1,c,m,[],0⟩ ⟨U,0⟩ (fun _=>False) (gK.nil _ _ _) (fun _ _ e=>e) zk.o (jM (qD _ _) hG) (by
                rcases hat with e | e
                . exact A e.symm
                . exact R (by rw[fG,e];rfl))
               have aj6:=jN.size;obtain⟨hL,hTL⟩:=ny.lay (S:=gB S w) HR5.o (A GJ) (n:=s.l.length+1) (r1.mono (fun k _ e=>by
                rcases e with e | e | e
                . exact⟨A e.1,e.2⟩
                . exact e.elim
                . exact⟨R (by omega),by omega⟩)) (by simp)
               refine⟨by rw[Lf.o];rfl,by rw[Lf.o];exact hL,?_⟩;exact((jN.trans (Turns.of_below f) (fun _ e _=>e)).trans (r2.mono (fun k e=>e.1)) (fun _ e _=>e)).trans (hTL.mono (fun k e=>by subst e;exact GJ)) (fun _ e _=>e)
         . rw[aJ h4] at G;have y:∀W,Below w.heap.size w W->Made S 124 w g (Sp.create s c m) (Y (.tuple #[I J 0,I J (3:Nat)])) W:=fun W D=>Made.none_ h D (by unfold Sp.create;rw[if_neg L,if_neg e2,if_pos (R h4)]);clear h ok hU hg c0 c1 hT hTd h4 hv;go_enter func212,ntmps212;go_wp2_with (first | (go_at_call 238;refine HV.mono ?_;rintro e z ⟨rfl,rfl⟩) | (go_at_call 239;refine Ct.mono ?_;rintro e z ⟨rfl,B⟩;have HD:=H9 (y z B);clear B))
           go_ret2;exact HD.o
theorem SQ (s:Sp.St)(S:Nat->Prop)(g b:Nat)(a:Int)(w:X)(h:gL w S g s)(ok:Sp.Ok s)(i:w.cell? ⟨b,0,U⟩=M (I J a)):
 Calls prog 153 #[Q (M ⟨g,0,U⟩),Q (M ⟨b,0,U⟩)] w (Did S 124 w g (Sp.ends s a)):=by
 have d:=H9 (Lc s S g a w h ok);generalize Sp.ends s a=r at *;clear ok h;go_enter func153,ntmps153;go_wp2_with fail
 refine d.o.mono ?_;intro e j c;have f:=H9 c;obtain⟨rfl,_,_⟩:=c;go_wp2;go_ret;exact f.o
theorem SS (s:Sp.St)(S:Nat->Prop)(g b:Nat)(a:Int)(w:X)(h:gL w S g s)(ok:Sp.Ok s)(i:w.cell? ⟨b,0,U⟩=M (I J a)):
 Calls prog 148 #[Q (M ⟨g,0,U⟩),Q (M ⟨b,0,U⟩)] w (Did S 124 w g (Sp.begins s a)):=by
 have d:=H9 (Ei s S g a w h ok);generalize Sp.begins s a=r at *;clear ok h;go_enter func148,ntmps148;go_wp2_with fail
 refine d.o.mono ?_;intro e j c;have f:=H9 c;obtain⟨rfl,_,_⟩:=c;go_wp2;go_ret;exact f.o
theorem SV (s:Sp.St)(S:Nat->Prop)(g b:Nat)(a:Int)(w:X)(h:gL w S g s)(ok:Sp.Ok s)(i:w.cell? ⟨b,0,U⟩=M (I J a)):
 Calls prog 229 #[Q (M ⟨g,0,U⟩),Q (M ⟨b,0,U⟩)] w (Did S 124 w g (Sp.drop s a)):=by
 have d:=GH s S g a w h ok;generalize Sp.drop s a=r at *;go_enter func229,ntmps229;go_wp2_with fail
 refine d.mono ?_;intro e j c;have f:=H9 c;obtain⟨rfl,_,_⟩:=c;go_wp2;go_ret;exact f.o
theorem SX (s:Sp.St)(S:Nat->Prop)(g c d:Nat)(a:Int)(b:Int)(w:X)(h:gL w S g s)(ok:Sp.Ok s)(k:w.cell? ⟨c,0,U⟩=M (I J a))(l:w.cell? ⟨d,0,U⟩=M (I J b)):
 Calls prog 228 #[Q (M ⟨g,0,U⟩),Q (M ⟨c,0,U⟩),Q (M ⟨d,0,U⟩)] w (Did S 124 w g (Sp.declare s a b)):=by
 have i:=zD s S g a b w h ok;generalize Sp.declare s a b=r at *;go_enter func228,ntmps228;go_wp2_with fail
 refine i.mono ?_;intro e m f;have j:=H9 f;obtain⟨rfl,_,_⟩:=f;go_wp2;go_ret;exact j.o
theorem SY (s:Sp.St)(S:Nat->Prop)(g f i j:Nat)(b:Int)(a:Int)(bo:ak)(c d:Nat)(l:av)(w:X)(h:gL w S g s)(ok:Sp.Ok s)(u:w.cell? ⟨f,0,U⟩=M (I J b))(v:w.cell? ⟨i,0,U⟩=M (I J a))(x:w.cell? ⟨j,0,U⟩=M (Z bo c d))(m:gN w bo d l)(n:l.length=c)(p:c<=1000000):
 Calls prog 227 #[Q (M ⟨g,0,U⟩),Q (M ⟨f,0,U⟩),Q (M ⟨i,0,U⟩),Q (M ⟨j,0,U⟩)] w (Did S 124 w g (Sp.append s b a l)):=by
 have q:=Bw s S g b a bo c d l w h ok m n p;generalize Sp.append s b a l=r at *;go_enter func227,ntmps227;go_wp2_with fail
 refine q.mono ?_;intro e y k;have t:=H9 k;obtain⟨rfl,_,_⟩:=k;go_wp2;go_ret;exact t.o
theorem S9 (s:Sp.St)(S:Nat->Prop)(g c d:Nat)(a:Int)(m:ay)(w:X)(h:gL w S g s)(ok:Sp.Ok s)(p:w.cell? ⟨c,0,U⟩=M (I J a))(t:w.cell? ⟨d,0,U⟩=M (V m))(f:s.last<=1000000)(i:m.size<=1000000):
 Calls prog 221 #[Q (M ⟨g,0,U⟩),Q (M ⟨c,0,U⟩),Q (M ⟨d,0,U⟩)] w (Did S 124 w g (Sr.made s a m)):=by
 have j:=Bz s S g a m w h ok f i;have k:Sr.made s a m=((Sp.create s a m).1,(Sp.create s a m).2.2):=rfl;generalize Sp.create s a m=q at *;obtain⟨u,v,l⟩:=q;generalize Sr.made s a m=r at *;go_enter func221,ntmps221;go_wp2_with fail
 refine j.mono ?_;intro e n b;have o:Did S 124 w g r (Y (I J (l:Int))) n:=by
  rw[k];exact⟨rfl,b.at_,b.turns⟩
 obtain⟨rfl,_,_⟩:=b;go_wp2;go_ret;exact o
abbrev ad3 (B:Nat)(w:X)(g:Nat)(s:Sp.St):Prop:=gL w (fun k=>B<=k) g s
theorem Did.Ta {B:Nat}{w w':X}{g:Nat}{r:Sp.St×Nat}{e:Ending}(h:Did (fun k=>B<=k) 124 w g r e w')(a:B<=w.heap.size):e=Y (I J (r.2:Int))∧ad3 B w' g r.1∧Below B w w':=by
 refine⟨h.ret,h.at_.mono (fun k _ e=>?_),h.turns.below (fun k e=>e) a⟩;rcases e with e | e
 . exact e
 . omega
theorem El (i z t:Int)(m:ay)(bo:ak)(n fU:Nat)(bs:av)(w:X)(hB:gN w bo fU bs)(hn:bs.length=n)(hN:n<=1000000)(hm:m.size<=1000000):
 Calls prog 70 #[.agg #[I J i,I J z,V m,Z bo n fU,I J t]] w fun e w'=>∃ao cap,e=Y (.agg #[I J i,I J z,V m,Z ao n cap,I J t])∧gK w' (fun k=>w.heap.size<=k) 5 ao cap bs∧Below w.heap.size w w':=by
 have q:∀W,Below w.heap.size w W->Calls prog 114 #[Z bo n fU] W fun e w'=>∃ao cap,e=Y (Z ao n cap)∧gK w' (fun k=>W.heap.size<=k) 5 ao cap bs∧Below W.heap.size W w':=fun W hW=>Ej bs bo fU n W (hB.stay hW) hn (by omega);go_enter func70,ntmps70;go_upto_region 1 with fail
 have D:=lq.made w #[I J i,I J z,V m,Z bo n fU,I J t] #[I J 0,I J 0,V ⟨#[]⟩,Z U 0 0,I J 0] 92 92;have r:∀W,lq w (K #[I J i,I J z,V m,Z bo n fU,I J t] 92 (0,0)) (K #[I J 0,I J 0,V ⟨#[]⟩,Z U 0 0,I J 0] 92 (0,0)) W->W.cell? ⟨w.heap.size,2,U⟩=M (V m)∧W.cell? ⟨w.heap.size,3,U⟩=M (Z bo n fU)∧W.frozen? ⟨w.heap.size,2,U⟩=F∧W.frozen? ⟨w.heap.size,3,U⟩=F:=fun W h=>⟨h.cell 2,h.cell 3,h.fz 2,h.fz 3⟩;have c2:=r _ D;have j:w.heap.size+2<=((w.alloc (K #[I J i,I J z,V m,Z bo n fU,I J t] 92)).alloc (K #[I J 0,I J 0,V ⟨#[]⟩,Z U 0 0,I J 0] 92)).heap.size:=by simp
 generalize ((w.alloc (K #[I J i,I J z,V m,Z bo n fU,I J t] 92)).alloc (K #[I J 0,I J 0,V ⟨#[]⟩,Z U 0 0,I J 0] 92))=w1 at *;have s:=H9 j;go_cut [3] (fun _ G=>∃ao cap,lq w (K #[I J i,I J z,V m,Z ao n cap,I J t] 92 (0,0)) (K #[I J 0,I J 0,V ⟨#[]⟩,Z U 0 0,I J 0] 92 (0,0)) G∧gK G (fun k=>w.heap.size+2<=k) 5 ao cap bs)
 case first =>
  go_region_with (first
   | (go_at_call 113;refine((fun W=>kW m W hm) _).mono ?_;rintro e w2 ⟨rfl,c⟩;have d:=D.stay ((gy _ _).trans c);obtain⟨H,L,g2,g3⟩:=r _ d;have N:=H9 d;have u:Hid (w1.heap.size<=w2.heap.size):=c.size;clear c d)
   | (go_at_call 114;refine(q _ N.o.below).mono ?_;rintro e x ⟨ao,cap,rfl,p,l⟩;have f:=N.o.stay l;obtain⟨S,T,k2,k3⟩:=r _ f;have y:=H9 f;have HO:=H9 p;clear l f p))
  all_goals
   go_wp2;go_meet;have B:=y.o.same 2 (V m) rfl;obtain⟨C,Ad⟩:=B.abu 3 (Z ao n cap);have DU:Turns (fun k=>w.heap.size<=k∧k<w.heap.size+2) x (x.setCell ⟨w.heap.size,2,U⟩ (V m)):=Turns.setCell _ x _ _ ⟨aM _,by show w.heap.size<_;omega⟩;have j:=s.o;have hs2:=u.o;refine⟨ao,cap,C,((HO.o.to (S':=fun k=>w.heap.size+2<=k) (fun k e _ _=>by omega)).turns DU (fun k e h=>by omega)).turns Ad (fun k e h=>by omega)⟩
 case rest =>
  obtain⟨ao,cap,a,p⟩:=hcut;have d0:=a.cell 0;have d1:=a.cell 1;have H:=a.cell 2;have L:=a.cell 3;have d4:=a.cell 4
  have g0:=a.fz2 0;have g1:=a.fz2 1;have g2:=a.fz2 2;have g3:=a.fz2 3;have g4:=a.fz2 4
  have e0:=a.xE 0;have e1:=a.xE 1;have S:=a.xE 2;have T:=a.xE 3;have e4:=a.xE 4
  simp at d0 d1 H L d4 e0 e1 S T e4;go_wp2;obtain⟨a1,t1⟩:=a.Ns 0 (I J i);obtain⟨a2,t2⟩:=a1.Ns 1 (I J z);obtain⟨a3,t3⟩:=a2.Ns 2 (V m);obtain⟨a4,t4⟩:=a3.Ns 3 (Z ao n cap);obtain⟨g,t5⟩:=a4.Ns 4 (I J t);have b:∀k,w.heap.size+2<=k->¬(w.heap.size<=k∧k<w.heap.size+2):=fun k e h=>by omega
  have Ea:=((((p.turns t1 b).turns t2 b).turns t3 b).turns t4 b).turns t5 b;generalize (((((wc.setCell ⟨w.heap.size+1,0,U⟩ (Value.int J i)).setCell ⟨w.heap.size+1,1,U⟩ (Value.int J z)).setCell ⟨w.heap.size+1,2,U⟩ (Value.string m)).setCell ⟨w.heap.size+1,3,U⟩ (Value.slice ao n cap)).setCell ⟨w.heap.size+1,4,U⟩ (Value.int J t))=w6 at g Ea ⊢;have r0:=g.xE 0;have r1:=g.xE 1;have r2:=g.xE 2;have r3:=g.xE 3;have r4:=g.xE 4;refine fI (v:=.agg #[I J i,I J z,V m,Z ao n cap,I J t]) (by simp[results,results70,go_sem,r0,r1,r2,r3,r4]) rfl ⟨ao,cap,rfl,Ea.mono (fun k _ e=>by omega),g.below⟩
def Em (l:List Sp.Up):Prop:=l.length<=1000∧∀u∈l,u.note.size<=1000000∧u.bytes.length<=1000000
theorem Sp.Ok.small {s:Sp.St}(ok:Sp.Ok s):Em s.l:=⟨by have:=ok.few;omega,fun u a=>⟨by have:=(ok.all u a).note;omega,by have:=(ok.all u a).long;omega⟩⟩
theorem zF (l:List Sp.Up)(ao:ak)(cap n:Nat)(w:X)(hl:pU w ao cap l)(hcap:n<=cap)(hn:l.length=n)(m:Em l):
 Calls prog 51 #[Z ao n cap] w fun e w'=>∃gJ,e=Y (Z gJ n n)∧pK w' (fun k=>w.heap.size<=k) 92 5 gJ n l∧Below w.heap.size w w':=by
 subst hn;have hN:=m.1;obtain⟨i0,y,z,B,C⟩:=info_parts IZ;obtain⟨w1,hmk,sj,c⟩:=run_make_full (P:=prog) w 0 40 92 i0 (.agg #[I J 0,I J 0,V ⟨#[]⟩,Z U 0 0,I J 0]) 5 underlying40 y z B J J l.length (by rw[C];omega) (by unfold maxLen;omega) (aA _);rw[show(Value.agg #[I J 0,I J 0,V ⟨#[]⟩,Z U 0 0,I J 0]).cells=#[I J 0,I J 0,V ⟨#[]⟩,Z U 0 0,I J 0] from rfl,Tc] at sj;have D:Below w.heap.size w w1:=⟨c.os,c.tape,c.output,c.size,fun k hk=>c.block k hk (by simp)⟩;have G:pK w1 (fun k=>w.heap.size<=k) 92 5 (M ⟨w.heap.size,0,U⟩) l.length (List.replicate l.length QB):=pK.zeros sj (aM _);have HZ:=H9 m;go_enter func51,ntmps51;go_wp2;go_loopw [11] (fun t wr=>∃k:Nat,k<=l.length∧t=I J k∧Below w.heap.size w wr∧pK wr (fun k=>w.heap.size<=k) 92 5 (M ⟨w.heap.size,0,U⟩) l.length (l.take k++List.replicate (l.length-k) QB)) (fun t _=>l.length-(intOf t).toNat)
 case atStart=>exact⟨0,aA _,rfl,D,G⟩
 case round =>
  obtain⟨k,hk,rfl,x,hU⟩:=hrel;by_cases f:k<l.length
  . obtain⟨bb,oo,q,rfl,hc0,hc1,hc2,hc3,hc4,H⟩:=(hl.stay x).at_ k f;have hlt':(k:Int)<l.length:=by omega
    have m:=HZ.o.2 l[k] (aC f);have HT:(l.take k++List.replicate (l.length-k) QB).set k l[k]=l.take (k+1)++List.replicate (l.length-(k+1)) QB:=Te l k f;have hL:k<(l.take k++List.replicate (l.length-k) QB).length:=by rw[aV,bW,List.length_replicate];omega
    have jc:=(eY _ wr).alloc (aM _) (K #[I J l[k].id,I J l[k].size,V l[k].note,Z q.bo l[k].bytes.length q.fU,I J l[k].sent] 92);have HC:=El l[k].id l[k].size l[k].sent l[k].note q.bo l[k].bytes.length q.fU l[k].bytes (wr.alloc (K #[I J l[k].id,I J l[k].size,V l[k].note,Z q.bo l[k].bytes.length q.fU,I J l[k].sent] 92)) (H.stay jc) rfl m.2 m.1;have L:=x.size;have HX:Hid (∀d gJ a,gK d (fun j=>(wr.alloc (K #[I J l[k].id,I J l[k].size,V l[k].note,Z q.bo l[k].bytes.length q.fU,I J l[k].sent] 92)).heap.size<=j) 5 gJ a l[k].bytes->Below (wr.alloc (K #[I J l[k].id,I J l[k].size,V l[k].note,Z q.bo l[k].bytes.length q.fU,I J l[k].sent] 92)).heap.size (wr.alloc (K #[I J l[k].id,I J l[k].size,V l[k].note,Z q.bo l[k].bytes.length q.fU,I J l[k].sent] 92)) d ->
     (∀j,j<5->(∃v,d.cell? ⟨w.heap.size,k*5+j,U⟩=M v)∧d.frozen? ⟨w.heap.size,k*5+j,U⟩=F) ∧
     Below w.heap.size w (((((d.setCell ⟨w.heap.size,k*5,U⟩ (I J l[k].id)).setCell ⟨w.heap.size,k*5+1,U⟩ (I J l[k].size)).setCell ⟨w.heap.size,k*5+2,U⟩ (V l[k].note)).setCell ⟨w.heap.size,k*5+3,U⟩ (Z gJ l[k].bytes.length a)).setCell ⟨w.heap.size,k*5+4,U⟩ (I J l[k].sent)) ∧
     pK (((((d.setCell ⟨w.heap.size,k*5,U⟩ (I J l[k].id)).setCell ⟨w.heap.size,k*5+1,U⟩ (I J l[k].size)).setCell ⟨w.heap.size,k*5+2,U⟩ (V l[k].note)).setCell ⟨w.heap.size,k*5+3,U⟩ (Z gJ l[k].bytes.length a)).setCell ⟨w.heap.size,k*5+4,U⟩ (I J l[k].sent)) (fun k=>w.heap.size<=k) 92 5 (M ⟨w.heap.size,0,U⟩) l.length (l.take (k+1)++List.replicate (l.length-(k+1)) QB)):=fun d gJ a N g=>by
     have i:=then_ jc g;have r:=(hU.mono (S':=fun j=>w.heap.size<=j∧j<wr.heap.size) (fun j hj e=>⟨e,hj⟩)).stay i;obtain⟨g2,s,_,_,b⟩:=r.at_.row k hL;injection s with s;injection s with s;subst s;obtain⟨S,wm⟩:=r.agu (u:=l[k]) hL N (fun j e h=>by rw[fG] at e;omega) rfl;refine⟨b,(x.trans (i.mono L)).trans (wm.below (fun j e=>by subst e;exact aM _) (by have:=i.size;omega)),?_⟩;rw[<-HT];refine S.mono (fun j _ e=>?_);rcases e with e | e
     . exact e.1
     . rw[fG] at e;omega
    generalize l[k]=p at *;go_wp2_with fail
    refine HC.mono ?_;rintro e d ⟨gJ,a,rfl,N,g⟩;obtain⟨b,T,W⟩:=HX.o d gJ a N g;obtain⟨⟨v0,d0⟩,f0⟩:=b 0 (by decide);obtain⟨⟨v1,d1⟩,f1⟩:=b 1 (by decide);obtain⟨⟨v2,d2⟩,f2⟩:=b 2 (by decide);obtain⟨⟨v3,d3⟩,f3⟩:=b 3 (by decide);obtain⟨⟨v4,d4⟩,f4⟩:=b 4 (by decide);rw[bI] at d0 f0;have HX1:=T;have WU:=H9 W
    go_wp2;go_roundw
    case rel=>exact⟨k+1,by omega,by go_num,HX1,WU.o⟩
    case measure=>simp[intOf];omega
  . obtain rfl:k=l.length:=by omega
    go_wp2;go_ret;refine⟨M ⟨w.heap.size,0,U⟩,rfl,?_,x⟩;have:=hU;rw[bN,Nat.sub_self,List.replicate_zero,bU] at this;exact this
theorem Tf (s:Sp.St)(S:Nat->Prop)(g:Nat)(w:X)(h:gL w S g s)(j:Em s.l):
 Calls prog 20 #[Q (M ⟨g,0,U⟩)] w fun e w'=>∃gJ,e=Y (Z gJ s.l.length s.l.length)∧pK w' (fun k=>w.heap.size<=k) 92 5 gJ s.l.length s.l∧Below w.heap.size w w':=by
 obtain⟨m,a,p,q,r,t,u,v,i⟩:=h.cells;have n:=zF s.l m a s.l.length w i.zf i.cap_ rfl j;generalize s.l=l at *;go_enter func20,ntmps20;go_wp2_with fail
 refine n.mono ?_;rintro e x ⟨gJ,rfl,b,c⟩;have d:=b;have f:=H9 c
 go_wp2;go_ret;exact⟨gJ,rfl,d,f.o⟩
theorem qz (s:Sp.St)(S:Nat->Prop)(g:Nat)(w:X)(h:gL w S g s)(x:Em s.l):
 Calls prog 200 #[Q (M ⟨g,0,U⟩)] w fun e w'=>∃q,e=Y (Q (M ⟨q,0,U⟩))∧gL w' (fun k=>w.heap.size<=k) q s∧Below w.heap.size w w':=by
 have j:=h.lt;obtain⟨m,i,y,z,N,T,W,hS,r⟩:=h.cells;have B:=zF s.l m i s.l.length w.drew (r.zf.stay (gy _ _)) r.cap_ rfl x;have C:∀a f,pK a (fun k=>w.drew.heap.size<=k) 92 5 f s.l.length s.l->Below w.drew.heap.size w.drew a->a.cell? ⟨g,0,U⟩=M (Z m s.l.length i)∧a.cell? ⟨g,1,U⟩=M (I J s.last)∧gL (a.alloc (K #[Z f s.l.length s.l.length,I J s.last] 124)) (fun k=>w.heap.size<=k) a.heap.size s∧Below w.heap.size w (a.alloc (K #[Z f s.l.length s.l.length,I J s.last] 124)):=fun a f b c=>by
  have d:=(gy _ _).trans c;have t:=(eY _ a).alloc (aM _) (K #[Z f s.l.length s.l.length,I J s.last] 124);exact⟨(d.cell (p:=⟨g,0,U⟩) j).trans y,(d.cell (p:=⟨g,1,U⟩) j).trans z,⟨f,s.l.length,eX a _,d.size,((b.mono (S':=fun k=>w.heap.size<=k∧k<a.heap.size) (fun k D e=>⟨e,D⟩)).stay t).mono (fun k _ e=>⟨e.1,by omega⟩)⟩,then_ d t⟩
 generalize s.l.length=n at *;generalize hl:s.last=G at *;go_enter func200,ntmps200;go_wp2_with fail
 go_region_held3 (fun w'=>w'.cell? ⟨g,0,U⟩=M (Z m n i)∧w'.cell? ⟨g,1,U⟩=M (I J G)) (go_keep) (first | (go_at_call 51;refine B.mono ?_;rintro e a ⟨f,rfl,b,c⟩;obtain⟨d0,d1,u,v⟩:=C a f b c;have H:=H9 u;have L:=H9 v;clear u v b c))
 all_goals
  go_wp2;go_ret;exact⟨_,rfl,H.o,L.o⟩
theorem GK (s:Sp.St)(S:Nat->Prop)(g:Nat)(i:Int)(w:X)(h:gL w S g s)(ok:Sp.Ok s)(r:Sp.place s.l i=U):
 Calls prog 31 #[Q (M ⟨g,0,U⟩),I J i] w fun e w'=>e=Y (.tuple #[.agg #[I J 0,I J 0,V ⟨#[]⟩,Z U 0 0,I J 0],.bool F])∧Below w.heap.size w w':=by
 have m:=(eY _ w).alloc (aM _) (K #[I J 0,I J 0,V ⟨#[]⟩,Z U 0 0,I J 0] 92);have n:=oD s S g i _ (h.stay m) (by have:=ok.few;omega);rw[Sp.tJ r] at n;go_enter func31,ntmps31;go_wp2_with fail
 refine n.mono ?_;rintro e a ⟨rfl,q⟩;have j:=then_ m q;have b:=(q.block w.heap.size (by simp)).trans (eX w _);have t:=eZ a _ 0 _ _ _ b;have u:=eZ a _ 1 _ _ _ b;have x:=eZ a _ 2 _ _ _ b;have z3:=eZ a _ 3 _ _ _ b;have y:=eZ a _ 4 _ _ _ b
 have L:=fq a _ 0 _ _ b;have N:=fq a _ 1 _ _ b;have T:=fq a _ 2 _ _ b;have W:=fq a _ 3 _ _ b;have y4:=fq a _ 4 _ _ b
 simp at t u x z3 y;have k:=j;have z:=H9 b
 go_wp2;have d:=((((k.setCell (p:=⟨w.heap.size,0,U⟩) (aM _) (I J 0)).setCell (p:=⟨w.heap.size,1,U⟩) (aM _) (I J 0)).setCell (p:=⟨w.heap.size,2,U⟩) (aM _) (V ⟨#[]⟩)).setCell (p:=⟨w.heap.size,3,U⟩) (aM _) (Z U 0 0)).setCell (p:=⟨w.heap.size,4,U⟩) (aM _) (I J 0);have c:=fu _ _ 4 _ _ (I J 0) (fu _ _ 3 _ _ (Z U 0 0) (fu _ _ 2 _ _ (V ⟨#[]⟩) (fu _ _ 1 _ _ (I J 0) (fu _ _ 0 _ _ (I J 0) z.o))));generalize (((((a.setCell ⟨w.heap.size,0,U⟩ (Value.int J 0)).setCell ⟨w.heap.size,1,U⟩ (Value.int J 0)).setCell ⟨w.heap.size,2,U⟩ (Value.string ⟨#[]⟩)).setCell ⟨w.heap.size,3,U⟩ (Value.slice U 0 0)).setCell ⟨w.heap.size,4,U⟩ (Value.int J 0))=f at d c ⊢;have B:=eZ f _ 0 _ _ _ c;have C:=eZ f _ 1 _ _ _ c;have D:=eZ f _ 2 _ _ _ c;have G:=eZ f _ 3 _ _ _ c;have H:=eZ f _ 4 _ _ _ c;refine fI (v:=.tuple #[.agg #[I J 0,I J 0,V ⟨#[]⟩,Z U 0 0,I J 0],.bool F]) (by simp[results,results31,go_sem,B,C,D,G,H]) rfl ⟨rfl,d⟩
theorem Al (s:Sp.St)(S:Nat->Prop)(g:Nat)(y:Int)(i:Nat)(w:X)(h:gL w S g s)(ok:Sp.Ok s)(hp:Sp.place s.l y=M i)(z:i<s.l.length):
 Calls prog 31 #[Q (M ⟨g,0,U⟩),I J y] w fun e w'=>∃ao cap,e=Y (.tuple #[.agg #[I J s.l[i].id,I J s.l[i].size,V s.l[i].note,Z ao s.l[i].bytes.length cap,I J s.l[i].sent],.bool true])∧gN w' ao cap s.l[i].bytes∧Below w.heap.size w w':=by
 have L:=(eY _ w).alloc (aM _) (K #[I J 0,I J 0,V ⟨#[]⟩,Z U 0 0,I J 0] 92);have N:=oD s S g y _ (h.stay L) (by have:=ok.few;omega);rw[Sp.tK hp] at N;have T:=H9 h;have W:=ok.all _ (aC z);have k1:=W.long;have k2:=W.note;have mO:=ok.few
 have hi':(i:Int)<s.l.length:=by omega
 obtain⟨u,hu⟩:∃u,s.l[i]=u:=⟨_,rfl⟩;rw[hu] at k1 k2 ⊢;go_enter func31,ntmps31;go_wp2_with fail
 refine N.mono ?_;rintro e w1 ⟨rfl,hb⟩;have d:=then_ L hb;obtain⟨gu,m⟩:=kL.of (T.o.stay d) z;obtain⟨q,h0,h1,h2,h3,h4,hf,n⟩:=kL.up (T.o.stay d) m z;rw[hu] at h0 h1 h2 h3 h4 n;obtain⟨cap,hcap,hc⟩:=m;have b:=(hb.block w.heap.size (by simp)).trans (eX w _);have B:=(aL.1 b).1;have C:=d;have HR:=H9 b
 go_wp2_with fail
 refine(El u.id u.size u.sent u.note q.bo u.bytes.length q.fU u.bytes w1 n rfl (by omega) (by omega)).mono ?_;rintro e c ⟨f,a,rfl,hO,r⟩;have D:=then_ C r;have b:=(r.block w.heap.size B).trans HR.o;have z0:=eZ c _ 0 _ _ _ b;have z1:=eZ c _ 1 _ _ _ b;have z2:=eZ c _ 2 _ _ _ b;have z3:=eZ c _ 3 _ _ _ b;have z4:=eZ c _ 4 _ _ _ b
 have y0:=fq c _ 0 _ _ b;have y1:=fq c _ 1 _ _ b;have y2:=fq c _ 2 _ _ b;have y3:=fq c _ 3 _ _ b;have y4:=fq c _ 4 _ _ b
 simp at z0 z1 z2 z3 z4;have kr:=D;have G:=H9 b;have HO:=H9 hO
 go_wp2;have t:=((((kr.setCell (p:=⟨w.heap.size,0,U⟩) (aM _) (I J u.id)).setCell (p:=⟨w.heap.size,1,U⟩) (aM _) (I J u.size)).setCell (p:=⟨w.heap.size,2,U⟩) (aM _) (V u.note)).setCell (p:=⟨w.heap.size,3,U⟩) (aM _) (Z f u.bytes.length a)).setCell (p:=⟨w.heap.size,4,U⟩) (aM _) (I J u.sent);have j:=fu _ _ 4 _ _ (I J u.sent) (fu _ _ 3 _ _ (Z f u.bytes.length a) (fu _ _ 2 _ _ (V u.note) (fu _ _ 1 _ _ (I J u.size) (fu _ _ 0 _ _ (I J u.id) G.o))));have H:=(HO.o.turns (lY w.heap.size [I J u.id,I J u.size,V u.note,Z f u.bytes.length a,I J u.sent] 0 c) (fun k e h=>by subst h;omega)).tQ;change gN (((((c.setCell ⟨w.heap.size,0,U⟩ (Value.int J u.id)).setCell ⟨w.heap.size,1,U⟩ (Value.int J u.size)).setCell ⟨w.heap.size,2,U⟩ (Value.string u.note)).setCell ⟨w.heap.size,3,U⟩ (Value.slice f u.bytes.length a)).setCell ⟨w.heap.size,4,U⟩ (Value.int J u.sent)) _ _ _ at H;generalize (((((c.setCell ⟨w.heap.size,0,U⟩ (Value.int J u.id)).setCell ⟨w.heap.size,1,U⟩ (Value.int J u.size)).setCell ⟨w.heap.size,2,U⟩ (Value.string u.note)).setCell ⟨w.heap.size,3,U⟩ (Value.slice f u.bytes.length a)).setCell ⟨w.heap.size,4,U⟩ (Value.int J u.sent))=x at t j H ⊢;have r0:=eZ x _ 0 _ _ _ j;have r1:=eZ x _ 1 _ _ _ j;have r2:=eZ x _ 2 _ _ _ j;have r3:=eZ x _ 3 _ _ _ j;have r4:=eZ x _ 4 _ _ _ j;refine fI (v:=.tuple #[.agg #[I J u.id,I J u.size,V u.note,Z f u.bytes.length a,I J u.sent],.bool true]) (by simp[results,results31,go_sem,r0,r1,r2,r3,r4]) rfl ⟨f,a,rfl,H,t⟩
theorem qA {x:Jn.E}(h:Jn.fits x=F):qP x=([],1):=by unfold qP;rw[if_neg (by simp[h])]
theorem oK {x:Jn.E}(h:Jn.fits x=true):qP x=(Jn.enc x,0):=by unfold qP;rw[if_pos h]
theorem sZ {s:Sp.St}(ok:Sp.Ok s):Em s.l:=Sp.Ok.small ok
theorem step_end (s:Sr.Sh)(S:Nat->Prop)(g b1:Nat)(x:Jn.E)(B:ak)(C D:Nat)(r:Sp.St×Nat)(w:X)(h:gX w S g s)(ok:Sr.Ok s)(hT:gN w B D x.text)(hn:x.text.length=C)
 (hF:∀W G,Below w.heap.size w W->w.heap.size+1<=W.heap.size->gL W (fun k=>w.heap.size+1<=k) G s.h->Calls prog 153 #[Q (M ⟨G,0,U⟩),Q (M ⟨b1,0,U⟩)] W (Did (fun k=>w.heap.size+1<=k) 124 W G r)) :
 Calls prog 147 #[Q (M ⟨g,0,U⟩),.agg #[I J x.kind,I J x.id,I J x.n,Z B C D],.func (.func 153) #[] #[Q (M ⟨b1,0,U⟩)]] w (iw S w g (Sr.write s r x)):=by
 obtain⟨gs,gl,ao,ca,P,hI⟩:=h;have jc:=(eY _ w).alloc (aM _) (K #[I J x.kind,I J x.id,I J x.n,Z B C D] 226);have l:=hI.stay jc;obtain⟨⟨c0,c1⟩,_⟩:=kG l.row;have HC:=H9 (qz s.h P gs _ l.sQ (sZ ok.h));have m:=H9 hI;have EW:=H9 jc;have HF:=H9 hF;have HT:=H9 hT
 have hlt:=hI.lt;clear hI l jc hF hT;go_enter func147,ntmps147;go_wp2_with fail
 refine HC.o.mono ?_;rintro e w2 ⟨G,rfl,H,f⟩;have p:Below w.heap.size w w2:=then_ EW.o f;have HD:=H9 (HF.o w2 G p (by have:=f.size;simpa using this) (H.mono (fun k _ e=>by simpa using e)));have L:=H9 p;have q:=H9 f
 clear H f p HC HF c0 c1;go_wp2_with fail
 refine HD.o.mono ?_;intro e w3 hd;have j:=q.o.size;have N:w.heap.size+1<=w2.heap.size:=by simpa using j
 obtain⟨he,GJ,t⟩:=hd.Ta N;have T:Below (w.heap.size+1) (w.alloc (K #[I J x.kind,I J x.id,I J x.n,Z B C D] 226)) w3:=(q.o.mono (by simp)).trans t;have hB3:Below w.heap.size w w3:=L.o.trans (t.mono (Nat.le_succ _));obtain⟨x0,x1,x2,x3⟩:=yh (Nat.lt_succ_self _) T;have c:=H9 hB3;have yX:=H9 GJ
 clear hd GJ t T hB3 j N HD L q;subst he;by_cases i:r.2=0
 . have u:=H9 (oJ x B C D w3 (HT.o.stay c.o) hn);rw[i];cases d:Jn.fits x with
   | false =>
     have v:Hid (∀W,Below w.heap.size w W->iw S w g (Sr.write s r x) (Y (I J (1:Nat))) W):=fun W hb=>iw.none_ ⟨gs,gl,ao,ca,P,m.o⟩ hb (Sr.oq i d);unfold mJ at u;rw[qA d] at u;clear i d m;go_wp2_with fail
     refine u.o.mono ?_;rintro e w4 ⟨rO,yC,rfl,_,a⟩;have kr:=H9 (then_ c.o a);clear a;go_wp2;go_ret;exact v.o _ kr.o
   | true =>
     unfold mJ at u;rw[oK d] at u;have hlx:(Jn.enc x).length<=1048600:=by have:=Jn.wJ d;have:=Jn.oL d;omega
     by_cases hl:100000<s.log.length+(Jn.enc x).length
     . have v:Hid (∀W,Below w.heap.size w W->iw S w g (Sr.write s r x) (Y (I J (16:Nat))) W):=fun W hb=>iw.none_ ⟨gs,gl,ao,ca,P,m.o⟩ hb (Sr.mZ i d hl);have HL:=H9 (show ¬s.log.length+(Jn.enc x).length<=100000 by omega);clear i d hl;generalize Jn.enc x=y at *;go_wp2_with fail
       refine u.o.mono ?_;rintro e w4 ⟨rO,yC,rfl,_,a⟩;have b:=then_ c.o a;have z:=m.o.stay b;obtain⟨⟨c0,c1⟩,_⟩:=kG z.row;have HW:=H9 (nJ z.log rO yC y.length HL.o);have kr:=H9 b;clear a b z;go_wp2_with fail
       refine HW.o.mono ?_;rintro e w5 ⟨rfl,Cy⟩;rw[Cy];clear Cy;go_wp2;go_ret;exact v.o _ kr.o
     . have v:Hid (∀W,gX W (gB S w) g ⟨r.1,s.log++Jn.enc x,s.sure⟩->Turns S w W->iw S w g (Sr.write s r x) (Y (I J 0)) W):=fun W h1 h2=>by
        rw[Sr.ou i d hl];exact⟨rfl,h1,h2⟩
       have HL:=H9 (show s.log.length+(Jn.enc x).length<=100000 by omega);clear i d hl;generalize Jn.enc x=y at *;go_wp2_with fail
       refine u.o.mono ?_;rintro e w4 ⟨rO,yC,rfl,hO4,a⟩;have b:=then_ c.o a;have z:=m.o.stay b;obtain⟨⟨c0,c1⟩,_⟩:=kG z.row;have HW:=H9 (mH z.log rO yC y.length y hO4.tQ rfl HL.o);have WV:=H9 (((yX.o.stay a).mono (S':=fun k=>w.heap.size<=k) (fun k _ e=>Nat.le_of_succ_le e)));have kr:=H9 b;clear a b z hO4;go_wp2_with fail
       refine HW.o.mono ?_;rintro e w5 ⟨xY,ca5,rfl,hL5,Ad,qg⟩;obtain⟨nW,hA,Ot⟩:=m.o.laid kr.o WV.o hL5 Ad qg;obtain⟨⟨y0,y1⟩,z0,z1⟩:=kG nW;have HA:=H9 hA;have WW:=H9 Ot
       clear hL5 Ad qg nW hA Ot c0 c1;go_wp2;go_ret;exact v.o _ HA.o WW.o
 . have v:Hid (iw S w g (Sr.write s r x) (Y (I J (r.2:Int))) w3):=iw.none_ ⟨gs,gl,ao,ca,P,m.o⟩ c.o (Sr.mY i);have hc':¬(r.2:Int)=0:=by omega
   clear i;generalize (r.2:Int)=rc at *;go_wp2;go_ret;exact v.o
theorem WX (s:Sr.Sh)(S:Nat->Prop)(g b1:Nat)(x:Jn.E)(B:ak)(C D:Nat)(r:Sp.St×Nat)(w:X)(h:gX w S g s)(ok:Sr.Ok s)(hT:gN w B D x.text)(hn:x.text.length=C)
 (hF:∀W G,Below w.heap.size w W->w.heap.size+1<=W.heap.size->gL W (fun k=>w.heap.size+1<=k) G s.h->Calls prog 148 #[Q (M ⟨G,0,U⟩),Q (M ⟨b1,0,U⟩)] W (Did (fun k=>w.heap.size+1<=k) 124 W G r)) :
 Calls prog 147 #[Q (M ⟨g,0,U⟩),.agg #[I J x.kind,I J x.id,I J x.n,Z B C D],.func (.func 148) #[] #[Q (M ⟨b1,0,U⟩)]] w (iw S w g (Sr.write s r x)):=by
 obtain⟨gs,gl,ao,ca,P,hI⟩:=h;have jc:=(eY _ w).alloc (aM _) (K #[I J x.kind,I J x.id,I J x.n,Z B C D] 226);have l:=hI.stay jc;obtain⟨⟨c0,c1⟩,_⟩:=kG l.row;have HC:=H9 (qz s.h P gs _ l.sQ (sZ ok.h));have m:=H9 hI;have EW:=H9 jc;have HF:=H9 hF;have HT:=H9 hT
 have hlt:=hI.lt;clear hI l jc hF hT;go_enter func147,ntmps147;go_wp2_with fail
 refine HC.o.mono ?_;rintro e w2 ⟨G,rfl,H,f⟩;have p:Below w.heap.size w w2:=then_ EW.o f;have HD:=H9 (HF.o w2 G p (by have:=f.size;simpa using this) (H.mono (fun k _ e=>by simpa using e)));have L:=H9 p;have q:=H9 f
 clear H f p HC HF c0 c1;go_wp2_with fail
 refine HD.o.mono ?_;intro e w3 hd;have j:=q.o.size;have N:w.heap.size+1<=w2.heap.size:=by simpa using j
 obtain⟨he,GJ,t⟩:=hd.Ta N;have T:Below (w.heap.size+1) (w.alloc (K #[I J x.kind,I J x.id,I J x.n,Z B C D] 226)) w3:=(q.o.mono (by simp)).trans t;have hB3:Below w.heap.size w w3:=L.o.trans (t.mono (Nat.le_succ _));obtain⟨x0,x1,x2,x3⟩:=yh (Nat.lt_succ_self _) T;have c:=H9 hB3;have yX:=H9 GJ
 clear hd GJ t T hB3 j N HD L q;subst he;by_cases i:r.2=0
 . have u:=H9 (oJ x B C D w3 (HT.o.stay c.o) hn);rw[i];cases d:Jn.fits x with
   | false =>
     have v:Hid (∀W,Below w.heap.size w W->iw S w g (Sr.write s r x) (Y (I J (1:Nat))) W):=fun W hb=>iw.none_ ⟨gs,gl,ao,ca,P,m.o⟩ hb (Sr.oq i d);unfold mJ at u;rw[qA d] at u;clear i d m;go_wp2_with fail
     refine u.o.mono ?_;rintro e w4 ⟨rO,yC,rfl,_,a⟩;have kr:=H9 (then_ c.o a);clear a;go_wp2;go_ret;exact v.o _ kr.o
   | true =>
     unfold mJ at u;rw[oK d] at u;have hlx:(Jn.enc x).length<=1048600:=by have:=Jn.wJ d;have:=Jn.oL d;omega
     by_cases hl:100000<s.log.length+(Jn.enc x).length
     . have v:Hid (∀W,Below w.heap.size w W->iw S w g (Sr.write s r x) (Y (I J (16:Nat))) W):=fun W hb=>iw.none_ ⟨gs,gl,ao,ca,P,m.o⟩ hb (Sr.mZ i d hl);have HL:=H9 (show ¬s.log.length+(Jn.enc x).length<=100000 by omega);clear i d hl;generalize Jn.enc x=y at *;go_wp2_with fail
       refine u.o.mono ?_;rintro e w4 ⟨rO,yC,rfl,_,a⟩;have b:=then_ c.o a;have z:=m.o.stay b;obtain⟨⟨c0,c1⟩,_⟩:=kG z.row;have HW:=H9 (nJ z.log rO yC y.length HL.o);have kr:=H9 b;clear a b z;go_wp2_with fail
       refine HW.o.mono ?_;rintro e w5 ⟨rfl,Cy⟩;rw[Cy];clear Cy;go_wp2;go_ret;exact v.o _ kr.o
     . have v:Hid (∀W,gX W (gB S w) g ⟨r.1,s.log++Jn.enc x,s.sure⟩->Turns S w W->iw S w g (Sr.write s r x) (Y (I J 0)) W):=fun W h1 h2=>by
        rw[Sr.ou i d hl];exact⟨rfl,h1,h2⟩
       have HL:=H9 (show s.log.length+(Jn.enc x).length<=100000 by omega);clear i d hl;generalize Jn.enc x=y at *;go_wp2_with fail
       refine u.o.mono ?_;rintro e w4 ⟨rO,yC,rfl,hO4,a⟩;have b:=then_ c.o a;have z:=m.o.stay b;obtain⟨⟨c0,c1⟩,_⟩:=kG z.row;have HW:=H9 (mH z.log rO yC y.length y hO4.tQ rfl HL.o);have WV:=H9 (((yX.o.stay a).mono (S':=fun k=>w.heap.size<=k) (fun k _ e=>Nat.le_of_succ_le e)));have kr:=H9 b;clear a b z hO4;go_wp2_with fail
       refine HW.o.mono ?_;rintro e w5 ⟨xY,ca5,rfl,hL5,Ad,qg⟩;obtain⟨nW,hA,Ot⟩:=m.o.laid kr.o WV.o hL5 Ad qg;obtain⟨⟨y0,y1⟩,z0,z1⟩:=kG nW;have HA:=H9 hA;have WW:=H9 Ot
       clear hL5 Ad qg nW hA Ot c0 c1;go_wp2;go_ret;exact v.o _ HA.o WW.o
 . have v:Hid (iw S w g (Sr.write s r x) (Y (I J (r.2:Int))) w3):=iw.none_ ⟨gs,gl,ao,ca,P,m.o⟩ c.o (Sr.mY i);have hc':¬(r.2:Int)=0:=by omega
   clear i;generalize (r.2:Int)=rc at *;go_wp2;go_ret;exact v.o
theorem WY (s:Sr.Sh)(S:Nat->Prop)(g b1:Nat)(x:Jn.E)(D:ak)(G H:Nat)(r:Sp.St×Nat)(w:X)(h:gX w S g s)(ok:Sr.Ok s)(hT:gN w D H x.text)(hn:x.text.length=G)
 (hF:∀W m,Below w.heap.size w W->w.heap.size+1<=W.heap.size->gL W (fun k=>w.heap.size+1<=k) m s.h->Calls prog 229 #[Q (M ⟨m,0,U⟩),Q (M ⟨b1,0,U⟩)] W (Did (fun k=>w.heap.size+1<=k) 124 W m r)) :
 Calls prog 147 #[Q (M ⟨g,0,U⟩),.agg #[I J x.kind,I J x.id,I J x.n,Z D G H],.func (.func 229) #[] #[Q (M ⟨b1,0,U⟩)]] w (iw S w g (Sr.write s r x)):=by
 obtain⟨L,gl,ao,ca,P,hI⟩:=h;have jc:=(eY _ w).alloc (aM _) (K #[I J x.kind,I J x.id,I J x.n,Z D G H] 226);have p:=hI.stay jc;obtain⟨⟨c0,c1⟩,_⟩:=kG p.row;have l:=H9 hI;have EW:=H9 jc;have HF:=H9 hF;have HT:=H9 hT
 have hlt:=hI.lt;go_enter func147,ntmps147;go_wp2_with fail
 refine(qz s.h P L _ p.sQ (sZ ok.h)).mono ?_;rintro e w2 ⟨m,rfl,hS2,d⟩;have q:=then_ EW.o d;have HB2:=q;have t:=H9 d
 go_wp2_with fail
 refine(HF.o w2 m q (by have:=d.size;simpa using this) (hS2.mono (fun k _ e=>by simpa using e))).mono ?_;intro e w3 hd;have u:=t.o.size;have hs3:w.heap.size+1<=w2.heap.size:=by simpa using u
 obtain⟨he,GJ,v⟩:=hd.Ta hs3;have hbx:=(t.o.mono (by simp)).trans v;have hB3:=HB2.trans (v.mono (Nat.le_succ _));have x0:=yh (Nat.lt_succ_self _) hbx;have b:=hB3;have yX:=H9 GJ
 subst he;by_cases z:r.2=0
 . have f:=H9 (oJ x D G H w3 (HT.o.stay b) hn);rw[z];cases i:Jn.fits x with
   | false =>
     have j:∀W,Below w.heap.size w W->iw S w g (Sr.write s r x) (Y (I J (1:Nat))) W:=fun W hb=>iw.none_ ⟨L,gl,ao,ca,P,l.o⟩ hb (Sr.oq z i);unfold mJ at f;rw[qA i] at f;go_wp2_with fail
     refine f.o.mono ?_;rintro e w4 ⟨N,T,rfl,_,a⟩;have B:=then_ b a;go_wp2;go_ret;exact j _ B
   | true =>
     unfold mJ at f;rw[oK i] at f;have hlx:(Jn.enc x).length<=1048600:=by have:=Jn.wJ i;have:=Jn.oL i;omega
     by_cases hl:100000<s.log.length+(Jn.enc x).length
     . have j:Hid (∀W,Below w.heap.size w W->iw S w g (Sr.write s r x) (Y (I J (16:Nat))) W):=fun W hb=>iw.none_ ⟨L,gl,ao,ca,P,l.o⟩ hb (Sr.mZ z i hl);have HL:=show ¬s.log.length+(Jn.enc x).length<=100000 by omega
       generalize Jn.enc x=y at *;go_wp2_with fail
       refine f.o.mono ?_;rintro e w4 ⟨N,T,rfl,_,a⟩;have c:=then_ b a;have C:=l.o.stay c;obtain⟨⟨c0,c1⟩,_⟩:=kG C.row;have B:=H9 c;go_wp2_with fail
       refine(nJ C.log N T y.length HL).mono ?_;rintro e w5 ⟨rfl,Cy⟩;rw[Cy];clear Cy;go_wp2;go_ret;exact j _ B
     . have j:∀W,gX W (gB S w) g ⟨r.1,s.log++Jn.enc x,s.sure⟩->Turns S w W->iw S w g (Sr.write s r x) (Y (I J 0)) W:=fun W h1 h2=>by
        rw[Sr.ou z i hl];exact⟨rfl,h1,h2⟩
       have HL:=show s.log.length+(Jn.enc x).length<=100000 by omega
       generalize Jn.enc x=y at *;go_wp2_with fail
       refine f.o.mono ?_;rintro e w4 ⟨N,T,rfl,hO4,a⟩;have c:=then_ b a;have C:=l.o.stay c;obtain⟨⟨c0,c1⟩,_⟩:=kG C.row;have WV:=H9 (((yX.o.stay a).mono (S':=fun k=>w.heap.size<=k) (fun k _ e=>Nat.le_of_succ_le e)));have B:=H9 c;go_wp2_with fail
       refine(mH C.log N T y.length y hO4.tQ rfl HL).mono ?_;rintro e w5 ⟨xY,ca5,rfl,hL5,Ad,qg⟩;obtain⟨nW,hA,Ot⟩:=l.o.laid B WV.o hL5 Ad qg;have y0:=kG nW;have HA:=hA;have WW:=H9 Ot
       go_wp2;go_ret;exact j _ HA WW.o
 . have j:iw S w g (Sr.write s r x) (Y (I J (r.2:Int))) w3:=iw.none_ ⟨L,gl,ao,ca,P,l.o⟩ b (Sr.mY z);have hc':¬(r.2:Int)=0:=by omega
   generalize (r.2:Int)=rc at *;go_wp2;go_ret;exact j
theorem WZ (s:Sr.Sh)(S:Nat->Prop)(g b1 b2:Nat)(x:Jn.E)(D:ak)(G H:Nat)(r:Sp.St×Nat)(w:X)(h:gX w S g s)(ok:Sr.Ok s)(hT:gN w D H x.text)(hn:x.text.length=G)
 (hF:∀W m,Below w.heap.size w W->w.heap.size+1<=W.heap.size->gL W (fun k=>w.heap.size+1<=k) m s.h->Calls prog 228 #[Q (M ⟨m,0,U⟩),Q (M ⟨b1,0,U⟩),Q (M ⟨b2,0,U⟩)] W (Did (fun k=>w.heap.size+1<=k) 124 W m r)) :
 Calls prog 147 #[Q (M ⟨g,0,U⟩),.agg #[I J x.kind,I J x.id,I J x.n,Z D G H],.func (.func 228) #[] #[Q (M ⟨b1,0,U⟩),Q (M ⟨b2,0,U⟩)]] w (iw S w g (Sr.write s r x)):=by
 obtain⟨L,gl,ao,ca,P,hI⟩:=h;have jc:=(eY _ w).alloc (aM _) (K #[I J x.kind,I J x.id,I J x.n,Z D G H] 226);have p:=hI.stay jc;obtain⟨⟨c0,c1⟩,_⟩:=kG p.row;have l:=H9 hI;have EW:=H9 jc;have HF:=H9 hF;have HT:=H9 hT
 have hlt:=hI.lt;go_enter func147,ntmps147;go_wp2_with fail
 refine(qz s.h P L _ p.sQ (sZ ok.h)).mono ?_;rintro e w2 ⟨m,rfl,hS2,d⟩;have q:=then_ EW.o d;have HB2:=q;have t:=H9 d
 go_wp2_with fail
 refine(HF.o w2 m q (by have:=d.size;simpa using this) (hS2.mono (fun k _ e=>by simpa using e))).mono ?_;intro e w3 hd;have u:=t.o.size;have hs3:w.heap.size+1<=w2.heap.size:=by simpa using u
 obtain⟨he,GJ,v⟩:=hd.Ta hs3;have hbx:=(t.o.mono (by simp)).trans v;have hB3:=HB2.trans (v.mono (Nat.le_succ _));have x0:=yh (Nat.lt_succ_self _) hbx;have b:=hB3;have yX:=H9 GJ
 subst he;by_cases z:r.2=0
 . have f:=H9 (oJ x D G H w3 (HT.o.stay b) hn);rw[z];cases i:Jn.fits x with
   | false =>
     have j:∀W,Below w.heap.size w W->iw S w g (Sr.write s r x) (Y (I J (1:Nat))) W:=fun W hb=>iw.none_ ⟨L,gl,ao,ca,P,l.o⟩ hb (Sr.oq z i);unfold mJ at f;rw[qA i] at f;go_wp2_with fail
     refine f.o.mono ?_;rintro e w4 ⟨N,T,rfl,_,a⟩;have B:=then_ b a;go_wp2;go_ret;exact j _ B
   | true =>
     unfold mJ at f;rw[oK i] at f;have hlx:(Jn.enc x).length<=1048600:=by have:=Jn.wJ i;have:=Jn.oL i;omega
     by_cases hl:100000<s.log.length+(Jn.enc x).length
     . have j:Hid (∀W,Below w.heap.size w W->iw S w g (Sr.write s r x) (Y (I J (16:Nat))) W):=fun W hb=>iw.none_ ⟨L,gl,ao,ca,P,l.o⟩ hb (Sr.mZ z i hl);have HL:=show ¬s.log.length+(Jn.enc x).length<=100000 by omega
       generalize Jn.enc x=y at *;go_wp2_with fail
       refine f.o.mono ?_;rintro e w4 ⟨N,T,rfl,_,a⟩;have c:=then_ b a;have C:=l.o.stay c;obtain⟨⟨c0,c1⟩,_⟩:=kG C.row;have B:=H9 c;go_wp2_with fail
       refine(nJ C.log N T y.length HL).mono ?_;rintro e w5 ⟨rfl,Cy⟩;rw[Cy];clear Cy;go_wp2;go_ret;exact j _ B
     . have j:∀W,gX W (gB S w) g ⟨r.1,s.log++Jn.enc x,s.sure⟩->Turns S w W->iw S w g (Sr.write s r x) (Y (I J 0)) W:=fun W h1 h2=>by
        rw[Sr.ou z i hl];exact⟨rfl,h1,h2⟩
       have HL:=show s.log.length+(Jn.enc x).length<=100000 by omega
       generalize Jn.enc x=y at *;go_wp2_with fail
       refine f.o.mono ?_;rintro e w4 ⟨N,T,rfl,hO4,a⟩;have c:=then_ b a;have C:=l.o.stay c;obtain⟨⟨c0,c1⟩,_⟩:=kG C.row;have WV:=H9 (((yX.o.stay a).mono (S':=fun k=>w.heap.size<=k) (fun k _ e=>Nat.le_of_succ_le e)));have B:=H9 c;go_wp2_with fail
       refine(mH C.log N T y.length y hO4.tQ rfl HL).mono ?_;rintro e w5 ⟨xY,ca5,rfl,hL5,Ad,qg⟩;obtain⟨nW,hA,Ot⟩:=l.o.laid B WV.o hL5 Ad qg;have y0:=kG nW;have HA:=hA;have WW:=H9 Ot
       go_wp2;go_ret;exact j _ HA WW.o
 . have j:iw S w g (Sr.write s r x) (Y (I J (r.2:Int))) w3:=iw.none_ ⟨L,gl,ao,ca,P,l.o⟩ b (Sr.mY z);have hc':¬(r.2:Int)=0:=by omega
   generalize (r.2:Int)=rc at *;go_wp2;go_ret;exact j
theorem W9 (s:Sr.Sh)(S:Nat->Prop)(g b1 b2 b3:Nat)(x:Jn.E)(D:ak)(G H:Nat)(r:Sp.St×Nat)(w:X)(h:gX w S g s)(ok:Sr.Ok s)(hT:gN w D H x.text)(hn:x.text.length=G)
 (hF:∀W m,Below w.heap.size w W->w.heap.size+1<=W.heap.size->gL W (fun k=>w.heap.size+1<=k) m s.h->Calls prog 227 #[Q (M ⟨m,0,U⟩),Q (M ⟨b1,0,U⟩),Q (M ⟨b2,0,U⟩),Q (M ⟨b3,0,U⟩)] W (Did (fun k=>w.heap.size+1<=k) 124 W m r)) :
 Calls prog 147 #[Q (M ⟨g,0,U⟩),.agg #[I J x.kind,I J x.id,I J x.n,Z D G H],.func (.func 227) #[] #[Q (M ⟨b1,0,U⟩),Q (M ⟨b2,0,U⟩),Q (M ⟨b3,0,U⟩)]] w (iw S w g (Sr.write s r x)):=by
 obtain⟨L,gl,ao,ca,P,hI⟩:=h;have jc:=(eY _ w).alloc (aM _) (K #[I J x.kind,I J x.id,I J x.n,Z D G H] 226);have p:=hI.stay jc;obtain⟨⟨c0,c1⟩,_⟩:=kG p.row;have l:=H9 hI;have EW:=H9 jc;have HF:=H9 hF;have HT:=H9 hT
 have hlt:=hI.lt;go_enter func147,ntmps147;go_wp2_with fail
 refine(qz s.h P L _ p.sQ (sZ ok.h)).mono ?_;rintro e w2 ⟨m,rfl,hS2,d⟩;have q:=then_ EW.o d;have HB2:=q;have t:=H9 d
 go_wp2_with fail
 refine(HF.o w2 m q (by have:=d.size;simpa using this) (hS2.mono (fun k _ e=>by simpa using e))).mono ?_;intro e w3 hd;have u:=t.o.size;have hs3:w.heap.size+1<=w2.heap.size:=by simpa using u
 obtain⟨he,GJ,v⟩:=hd.Ta hs3;have hbx:=(t.o.mono (by simp)).trans v;have hB3:=HB2.trans (v.mono (Nat.le_succ _));have x0:=yh (Nat.lt_succ_self _) hbx;have b:=hB3;have yX:=H9 GJ
 subst he;by_cases z:r.2=0
 . have f:=H9 (oJ x D G H w3 (HT.o.stay b) hn);rw[z];cases i:Jn.fits x with
   | false =>
     have j:∀W,Below w.heap.size w W->iw S w g (Sr.write s r x) (Y (I J (1:Nat))) W:=fun W hb=>iw.none_ ⟨L,gl,ao,ca,P,l.o⟩ hb (Sr.oq z i);unfold mJ at f;rw[qA i] at f;go_wp2_with fail
     refine f.o.mono ?_;rintro e w4 ⟨N,T,rfl,_,a⟩;have B:=then_ b a;go_wp2;go_ret;exact j _ B
   | true =>
     unfold mJ at f;rw[oK i] at f;have hlx:(Jn.enc x).length<=1048600:=by have:=Jn.wJ i;have:=Jn.oL i;omega
     by_cases hl:100000<s.log.length+(Jn.enc x).length
     . have j:Hid (∀W,Below w.heap.size w W->iw S w g (Sr.write s r x) (Y (I J (16:Nat))) W):=fun W hb=>iw.none_ ⟨L,gl,ao,ca,P,l.o⟩ hb (Sr.mZ z i hl);have HL:=show ¬s.log.length+(Jn.enc x).length<=100000 by omega
       generalize Jn.enc x=y at *;go_wp2_with fail
       refine f.o.mono ?_;rintro e w4 ⟨N,T,rfl,_,a⟩;have c:=then_ b a;have C:=l.o.stay c;obtain⟨⟨c0,c1⟩,_⟩:=kG C.row;have B:=H9 c;go_wp2_with fail
       refine(nJ C.log N T y.length HL).mono ?_;rintro e w5 ⟨rfl,Cy⟩;rw[Cy];clear Cy;go_wp2;go_ret;exact j _ B
     . have j:∀W,gX W (gB S w) g ⟨r.1,s.log++Jn.enc x,s.sure⟩->Turns S w W->iw S w g (Sr.write s r x) (Y (I J 0)) W:=fun W h1 h2=>by
        rw[Sr.ou z i hl];exact⟨rfl,h1,h2⟩
       have HL:=show s.log.length+(Jn.enc x).length<=100000 by omega
       generalize Jn.enc x=y at *;go_wp2_with fail
       refine f.o.mono ?_;rintro e w4 ⟨N,T,rfl,hO4,a⟩;have c:=then_ b a;have C:=l.o.stay c;obtain⟨⟨c0,c1⟩,_⟩:=kG C.row;have WV:=H9 (((yX.o.stay a).mono (S':=fun k=>w.heap.size<=k) (fun k _ e=>Nat.le_of_succ_le e)));have B:=H9 c;go_wp2_with fail
       refine(mH C.log N T y.length y hO4.tQ rfl HL).mono ?_;rintro e w5 ⟨xY,ca5,rfl,hL5,Ad,qg⟩;obtain⟨nW,hA,Ot⟩:=l.o.laid B WV.o hL5 Ad qg;have y0:=kG nW;have HA:=hA;have WW:=H9 Ot
       go_wp2;go_ret;exact j _ HA WW.o
 . have j:iw S w g (Sr.write s r x) (Y (I J (r.2:Int))) w3:=iw.none_ ⟨L,gl,ao,ca,P,l.o⟩ b (Sr.mY z);have hc':¬(r.2:Int)=0:=by omega
   generalize (r.2:Int)=rc at *;go_wp2;go_ret;exact j
theorem Xa (s:Sr.Sh)(S:Nat->Prop)(g b1 b2:Nat)(x:Jn.E)(D:ak)(G H:Nat)(r:Sp.St×Nat)(w:X)(h:gX w S g s)(ok:Sr.Ok s)(hT:gN w D H x.text)(hn:x.text.length=G)
 (hF:∀W m,Below w.heap.size w W->w.heap.size+1<=W.heap.size->gL W (fun k=>w.heap.size+1<=k) m s.h->Calls prog 221 #[Q (M ⟨m,0,U⟩),Q (M ⟨b1,0,U⟩),Q (M ⟨b2,0,U⟩)] W (Did (fun k=>w.heap.size+1<=k) 124 W m r)) :
 Calls prog 147 #[Q (M ⟨g,0,U⟩),.agg #[I J x.kind,I J x.id,I J x.n,Z D G H],.func (.func 221) #[] #[Q (M ⟨b1,0,U⟩),Q (M ⟨b2,0,U⟩)]] w (iw S w g (Sr.write s r x)):=by
 obtain⟨L,gl,ao,ca,P,hI⟩:=h;have jc:=(eY _ w).alloc (aM _) (K #[I J x.kind,I J x.id,I J x.n,Z D G H] 226);have p:=hI.stay jc;obtain⟨⟨c0,c1⟩,_⟩:=kG p.row;have l:=H9 hI;have EW:=H9 jc;have HF:=H9 hF;have HT:=H9 hT
 have hlt:=hI.lt;go_enter func147,ntmps147;go_wp2_with fail
 refine(qz s.h P L _ p.sQ (sZ ok.h)).mono ?_;rintro e w2 ⟨m,rfl,hS2,d⟩;have q:=then_ EW.o d;have HB2:=q;have t:=H9 d
 go_wp2_with fail
 refine(HF.o w2 m q (by have:=d.size;simpa using this) (hS2.mono (fun k _ e=>by simpa using e))).mono ?_;intro e w3 hd;have u:=t.o.size;have hs3:w.heap.size+1<=w2.heap.size:=by simpa using u
 obtain⟨he,GJ,v⟩:=hd.Ta hs3;have hbx:=(t.o.mono (by simp)).trans v;have hB3:=HB2.trans (v.mono (Nat.le_succ _));have x0:=yh (Nat.lt_succ_self _) hbx;have b:=hB3;have yX:=H9 GJ
 subst he;by_cases z:r.2=0
 . have f:=H9 (oJ x D G H w3 (HT.o.stay b) hn);rw[z];cases i:Jn.fits x with
   | false =>
     have j:∀W,Below w.heap.size w W->iw S w g (Sr.write s r x) (Y (I J (1:Nat))) W:=fun W hb=>iw.none_ ⟨L,gl,ao,ca,P,l.o⟩ hb (Sr.oq z i);unfold mJ at f;rw[qA i] at f;go_wp2_with fail
     refine f.o.mono ?_;rintro e w4 ⟨N,T,rfl,_,a⟩;have B:=then_ b a;go_wp2;go_ret;exact j _ B
   | true =>
     unfold mJ at f;rw[oK i] at f;have hlx:(Jn.enc x).length<=1048600:=by have:=Jn.wJ i;have:=Jn.oL i;omega
     by_cases hl:100000<s.log.length+(Jn.enc x).length
     . have j:Hid (∀W,Below w.heap.size w W->iw S w g (Sr.write s r x) (Y (I J (16:Nat))) W):=fun W hb=>iw.none_ ⟨L,gl,ao,ca,P,l.o⟩ hb (Sr.mZ z i hl);have HL:=show ¬s.log.length+(Jn.enc x).length<=100000 by omega
       generalize Jn.enc x=y at *;go_wp2_with fail
       refine f.o.mono ?_;rintro e w4 ⟨N,T,rfl,_,a⟩;have c:=then_ b a;have C:=l.o.stay c;obtain⟨⟨c0,c1⟩,_⟩:=kG C.row;have B:=H9 c;go_wp2_with fail
       refine(nJ C.log N T y.length HL).mono ?_;rintro e w5 ⟨rfl,Cy⟩;rw[Cy];clear Cy;go_wp2;go_ret;exact j _ B
     . have j:∀W,gX W (gB S w) g ⟨r.1,s.log++Jn.enc x,s.sure⟩->Turns S w W->iw S w g (Sr.write s r x) (Y (I J 0)) W:=fun W h1 h2=>by
        rw[Sr.ou z i hl];exact⟨rfl,h1,h2⟩
       have HL:=show s.log.length+(Jn.enc x).length<=100000 by omega
       generalize Jn.enc x=y at *;go_wp2_with fail
       refine f.o.mono ?_;rintro e w4 ⟨N,T,rfl,hO4,a⟩;have c:=then_ b a;have C:=l.o.stay c;obtain⟨⟨c0,c1⟩,_⟩:=kG C.row;have WV:=H9 (((yX.o.stay a).mono (S':=fun k=>w.heap.size<=k) (fun k _ e=>Nat.le_of_succ_le e)));have B:=H9 c;go_wp2_with fail
       refine(mH C.log N T y.length y hO4.tQ rfl HL).mono ?_;rintro e w5 ⟨xY,ca5,rfl,hL5,Ad,qg⟩;obtain⟨nW,hA,Ot⟩:=l.o.laid B WV.o hL5 Ad qg;have y0:=kG nW;have HA:=hA;have WW:=H9 Ot
       go_wp2;go_ret;exact j _ HA WW.o
 . have j:iw S w g (Sr.write s r x) (Y (I J (r.2:Int))) w3:=iw.none_ ⟨L,gl,ao,ca,P,l.o⟩ b (Sr.mY z);have hc':¬(r.2:Int)=0:=by omega
   generalize (r.2:Int)=rc at *;go_wp2;go_ret;exact j
theorem Tg (w:X):
 Calls prog 10 #[] w fun e w'=>∃g,e=Y (Q (M ⟨g,0,U⟩))∧gX w' (fun k=>w.heap.size<=k) g Sr.new∧Below w.heap.size w w':=by
 go_enter func10,ntmps10;go_wp2_with fail
 refine(Lh w).mono ?_;rintro e a ⟨rfl,m,q⟩;have v:=m.lt;have r:=m;have n:=H9 q
 go_wp2_with fail
 refine((fun W=>Nt W) a).mono ?_;rintro e c ⟨rfl,f,b⟩;have s:=f.lt;have x:=b.size;have t:=n.o.size;have d:=then_ n.o b;have p:gX (c.alloc (K #[Q (M ⟨w.heap.size,0,U⟩),Q (M ⟨a.heap.size,0,U⟩)] 45)) (fun k=>w.heap.size<=k) c.heap.size Sr.new∧Below w.heap.size w (c.alloc (K #[Q (M ⟨w.heap.size,0,U⟩),Q (M ⟨a.heap.size,0,U⟩)] 45)):=by
  have j:=(eY _ c).alloc (aM _) (K #[Q (M ⟨w.heap.size,0,U⟩),Q (M ⟨a.heap.size,0,U⟩)] 45);have l:je c 0 a.heap.size [] 0 U 0:=⟨f.row,iA.nil _ _ _,aA _,f.le,f.few⟩;refine⟨⟨w.heap.size,a.heap.size,U,0,fun k=>w.heap.size<=k∧k<a.heap.size,eX c _,((r.mono (S':=fun k=>w.heap.size<=k∧k<a.heap.size) (fun k u e=>⟨e,u⟩)).stay b).stay j,l.stay j,d.size,fun k e=>⟨e.1,by omega,fun i=>?_⟩,fun k e=>?_⟩,then_ d j⟩
  . rcases i with i | i
    . omega
    . cases i
  . rcases e with e | e
    . exact⟨by show w.heap.size<=k;omega,by omega⟩
    . cases e
 go_wp2;go_ret;exact⟨_,rfl,p.1,p.2⟩
section
variable {s:Sr.Sh} {S:Nat->Prop} {g:Nat} {w:X}
theorem rW.turned {w':X}{gs a:Nat}{ao:ak}{b:Nat}{P:Nat->Prop}{d:av}{f:Nat}(h:rW w S g gs a ao b P s)(i:je w' 0 a d f ao b)(c:Turns (fun k=>k=a) w w'):rW w' S g gs a ao b P ⟨s.h,d,f⟩∧Turns S w w' :=
 ⟨⟨c.row h.row (fun e=>(h.Ql a (A rfl)).2 e.symm),h.sQ.turns c (fun k e j=>(h.inP k e).2.2 (A j)),i,h.self,h.inP,h.Ql⟩,c.mono (fun k e=>by subst e;exact(h.Ql _ (A rfl)).1)⟩
theorem nC (h:gX w S g s):
 Calls prog 101 #[Q (M ⟨g,0,U⟩)] w fun e w'=>e=Y (.tuple #[])∧gX w' S g (Sr.sync s)∧Turns S w w':=by
 obtain⟨d,f,i,j,P,a⟩:=h;obtain⟨⟨o,p⟩,_⟩:=kG a.row;go_enter func101,ntmps101;go_wp2_with fail
 refine(Bj a.log).mono ?_;rintro e b ⟨rfl,k,l⟩;obtain⟨m,n⟩:=a.turned k l;have c:gX b S g (Sr.sync s)∧Turns S w b:=⟨⟨d,f,i,j,P,m⟩,n⟩;go_wp2;go_end0
 exact⟨rfl,c.1,c.2⟩
end
section
variable {s:Sr.Sh} {S:Nat->Prop} {g:Nat} {w:X}
theorem Ti (h:gX w S g s)(ok:Sr.Ok s)(a:Int):
 Calls prog 103 #[Q (M ⟨g,0,U⟩),I J a] w (iw S w g (Sr.ends s a)):=by
 have d:Below w.heap.size w ((w.alloc (K #[I J a] 3)).alloc (K #[I J 6,I J a,I J 0,Z U 0 0] 226)):=((eY _ _).alloc (by simp;try omega) _).alloc (by simp;try omega) _;have b:∀W,Below ((w.alloc (K #[I J a] 3)).alloc (K #[I J 6,I J a,I J 0,Z U 0 0] 226)).heap.size ((w.alloc (K #[I J a] 3)).alloc (K #[I J 6,I J a,I J 0,Z U 0 0] 226)) W->W.cell? ⟨w.heap.size,0,U⟩=M (I J a):=fun W f=>by rw[f.cell (p:=⟨w.heap.size,0,U⟩) (by simp;try omega)];exact jE _ _ _ _ (kS _ _ _ _ (by simp;try omega))
 have k:=H9 (step_end s S g w.heap.size ⟨6,a,0,[]⟩ U 0 0 (Sp.ends s.h a) _ (h.stay d) ok (gN.nil _) rfl (fun W l f _ m=>SQ s.h _ l w.heap.size a W m ok.h (b W f)));have n:=H9 d;have t:∀(i:Fn) (first c:Array Value) (w:X),(Instr.makeFunc i first c).run prog w=.ok (.func i first c) w:=fun _ _ _ _=>rfl;unfold Sr.ends;generalize Sr.write s _ _=r at *;clear h ok d b;go_enter func103,ntmps103;go_wp2_with fail
 refine k.o.mono ?_;intro e u j;have q:=H9 (iw.from_ n.o j);obtain⟨rfl,_,_⟩:=j;go_wp2;go_ret;exact q.o
theorem Li (h:gX w S g s)(ok:Sr.Ok s)(a:Int):
 Calls prog 100 #[Q (M ⟨g,0,U⟩),I J a] w (iw S w g (Sr.begins s a)):=by
 have d:Below w.heap.size w ((w.alloc (K #[I J a] 3)).alloc (K #[I J 5,I J a,I J 0,Z U 0 0] 226)):=((eY _ _).alloc (by simp;try omega) _).alloc (by simp;try omega) _;have b:∀W,Below ((w.alloc (K #[I J a] 3)).alloc (K #[I J 5,I J a,I J 0,Z U 0 0] 226)).heap.size ((w.alloc (K #[I J a] 3)).alloc (K #[I J 5,I J a,I J 0,Z U 0 0] 226)) W->W.cell? ⟨w.heap.size,0,U⟩=M (I J a):=fun W f=>by rw[f.cell (p:=⟨w.heap.size,0,U⟩) (by simp;try omega)];exact jE _ _ _ _ (kS _ _ _ _ (by simp;try omega))
 have k:=H9 (WX s S g w.heap.size ⟨5,a,0,[]⟩ U 0 0 (Sp.begins s.h a) _ (h.stay d) ok (gN.nil _) rfl (fun W l f _ m=>SS s.h _ l w.heap.size a W m ok.h (b W f)));have n:=H9 d;have t:∀(i:Fn) (first c:Array Value) (w:X),(Instr.makeFunc i first c).run prog w=.ok (.func i first c) w:=fun _ _ _ _=>rfl;unfold Sr.begins;generalize Sr.write s _ _=r at *;clear h ok d b;go_enter func100,ntmps100;go_wp2_with fail
 refine k.o.mono ?_;intro e u j;have q:=H9 (iw.from_ n.o j);obtain⟨rfl,_,_⟩:=j;go_wp2;go_ret;exact q.o
theorem yj (h:gX w S g s)(ok:Sr.Ok s)(a:Int):
 Calls prog 180 #[Q (M ⟨g,0,U⟩),I J a] w (iw S w g (Sr.drop s a)):=by
 have f:Below w.heap.size w ((w.alloc (K #[I J a] 3)).alloc (K #[I J 4,I J a,I J 0,Z U 0 0] 226)):=((eY _ _).alloc (by simp;try omega) _).alloc (by simp;try omega) _;have c:∀W,Below ((w.alloc (K #[I J a] 3)).alloc (K #[I J 4,I J a,I J 0,Z U 0 0] 226)).heap.size ((w.alloc (K #[I J a] 3)).alloc (K #[I J 4,I J a,I J 0,Z U 0 0] 226)) W->W.cell? ⟨w.heap.size,0,U⟩=M (I J a):=fun W d=>by rw[d.cell (p:=⟨w.heap.size,0,U⟩) (by simp;try omega)];exact jE _ _ _ _ (kS _ _ _ _ (by simp;try omega))
 have k:=WY s S g w.heap.size ⟨4,a,0,[]⟩ U 0 0 (Sp.drop s.h a) _ (h.stay f) ok (gN.nil _) rfl (fun W l d _ m=>SV s.h _ l w.heap.size a W m ok.h (c W d));have o:∀(i:Fn) (first b:Array Value) (w:X),(Instr.makeFunc i first b).run prog w=.ok (.func i first b) w:=fun _ _ _ _=>rfl;unfold Sr.drop;generalize Sr.write s _ _=r at *;go_enter func180,ntmps180;go_wp2_with fail
 refine k.mono ?_;intro e q j;have n:=iw.from_ f j;obtain⟨rfl,_,_⟩:=j;go_wp2;go_ret;exact n
theorem Fj (h:gX w S g s)(ok:Sr.Ok s)(a:Int)(b:Int):
 Calls prog 179 #[Q (M ⟨g,0,U⟩),I J a,I J b] w (iw S w g (Sr.declare s a b)):=by
 have j:Below w.heap.size w (((w.alloc (K #[I J a] 3)).alloc (K #[I J b] 3)).alloc (K #[I J 3,I J a,I J b,Z U 0 0] 226)):=(((eY _ _).alloc (by simp;try omega) _).alloc (by simp;try omega) _).alloc (by simp;try omega) _;have f:∀W,Below (((w.alloc (K #[I J a] 3)).alloc (K #[I J b] 3)).alloc (K #[I J 3,I J a,I J b,Z U 0 0] 226)).heap.size (((w.alloc (K #[I J a] 3)).alloc (K #[I J b] 3)).alloc (K #[I J 3,I J a,I J b,Z U 0 0] 226)) W->W.cell? ⟨w.heap.size,0,U⟩=M (I J a):=fun W c=>by rw[c.cell (p:=⟨w.heap.size,0,U⟩) (by simp;try omega)];exact jE _ _ _ _ (jE _ _ _ _ (kS _ _ _ _ (by simp;try omega)))
 have i:∀W,Below (((w.alloc (K #[I J a] 3)).alloc (K #[I J b] 3)).alloc (K #[I J 3,I J a,I J b,Z U 0 0] 226)).heap.size (((w.alloc (K #[I J a] 3)).alloc (K #[I J b] 3)).alloc (K #[I J 3,I J a,I J b,Z U 0 0] 226)) W->W.cell? ⟨w.heap.size+1,0,U⟩=M (I J b):=fun W c=>by rw[c.cell (p:=⟨w.heap.size+1,0,U⟩) (by simp;try omega)];exact jE _ _ _ _ (kS _ _ _ _ (by simp;try omega))
 have m:=WZ s S g w.heap.size (w.heap.size+1) ⟨3,a,b,[]⟩ U 0 0 (Sp.declare s.h a b) _ (h.stay j) ok (gN.nil _) rfl (fun W n c _ o=>SX s.h _ n w.heap.size (w.heap.size+1) a b W o ok.h (f W c) (i W c));have t:∀(k:Fn) (first d:Array Value) (w:X),(Instr.makeFunc k first d).run prog w=.ok (.func k first d) w:=fun _ _ _ _=>rfl;unfold Sr.declare;generalize Sr.write s _ _=r at *;go_enter func179,ntmps179;go_wp2_with fail
 refine m.mono ?_;intro e u l;have q:=iw.from_ j l;obtain⟨rfl,_,_⟩:=l;go_wp2;go_ret;exact q
theorem qj (h:gX w S g s)(ok:Sr.Ok s)(b:Int)(a:Int)(bo:ak)(c d:Nat)(l:av)(o:gN w bo d l)(q:l.length=c)(v:c<=1000000):
 Calls prog 178 #[Q (M ⟨g,0,U⟩),I J b,I J a,Z bo c d] w (iw S w g (Sr.append s b a l)):=by
 have j:Below w.heap.size w ((((w.alloc (K #[I J b] 3)).alloc (K #[I J a] 3)).alloc (K #[Z bo c d] 31)).alloc (K #[I J 2,I J b,I J 0,Z bo c d] 226)):=((((eY _ _).alloc (by simp;try omega) _).alloc (by simp;try omega) _).alloc (by simp;try omega) _).alloc (by simp;try omega) _;have k:∀W,Below ((((w.alloc (K #[I J b] 3)).alloc (K #[I J a] 3)).alloc (K #[Z bo c d] 31)).alloc (K #[I J 2,I J b,I J 0,Z bo c d] 226)).heap.size ((((w.alloc (K #[I J b] 3)).alloc (K #[I J a] 3)).alloc (K #[Z bo c d] 31)).alloc (K #[I J 2,I J b,I J 0,Z bo c d] 226)) W->W.cell? ⟨w.heap.size,0,U⟩=M (I J b):=fun W f=>by rw[f.cell (p:=⟨w.heap.size,0,U⟩) (by simp;try omega)];exact jE _ _ _ _ (jE _ _ _ _ (jE _ _ _ _ (kS _ _ _ _ (by simp;try omega))))
 have m:∀W,Below ((((w.alloc (K #[I J b] 3)).alloc (K #[I J a] 3)).alloc (K #[Z bo c d] 31)).alloc (K #[I J 2,I J b,I J 0,Z bo c d] 226)).heap.size ((((w.alloc (K #[I J b] 3)).alloc (K #[I J a] 3)).alloc (K #[Z bo c d] 31)).alloc (K #[I J 2,I J b,I J 0,Z bo c d] 226)) W->W.cell? ⟨w.heap.size+1,0,U⟩=M (I J a):=fun W f=>by rw[f.cell (p:=⟨w.heap.size+1,0,U⟩) (by simp;try omega)];exact jE _ _ _ _ (jE _ _ _ _ (kS _ _ _ _ (by simp;try omega)))
 have n:∀W,Below ((((w.alloc (K #[I J b] 3)).alloc (K #[I J a] 3)).alloc (K #[Z bo c d] 31)).alloc (K #[I J 2,I J b,I J 0,Z bo c d] 226)).heap.size ((((w.alloc (K #[I J b] 3)).alloc (K #[I J a] 3)).alloc (K #[Z bo c d] 31)).alloc (K #[I J 2,I J b,I J 0,Z bo c d] 226)) W->W.cell? ⟨w.heap.size+2,0,U⟩=M (Z bo c d):=fun W f=>by rw[f.cell (p:=⟨w.heap.size+2,0,U⟩) (by simp;try omega)];exact jE _ _ _ _ (kS _ _ _ _ (by simp;try omega))
 have x:=W9 s S g w.heap.size (w.heap.size+1) (w.heap.size+2) ⟨2,b,0,l⟩ bo c d (Sp.append s.h b a l) _ (h.stay j) ok (o.stay j) q (fun W y f _ z=>SY s.h _ y w.heap.size (w.heap.size+1) (w.heap.size+2) b a bo c d l W z ok.h (k W f) (m W f) (n W f) ((o.stay j).stay f) q v);have C:∀(t:Fn) (first i:Array Value) (w:X),(Instr.makeFunc t first i).run prog w=.ok (.func t first i) w:=fun _ _ _ _=>rfl;unfold Sr.append;generalize Sr.write s _ _=r at *;go_enter func178,ntmps178;go_wp2_with fail
 refine x.mono ?_;intro e D u;have B:=iw.from_ j u;obtain⟨rfl,_,_⟩:=u;go_wp2;go_ret;exact B
end
structure Xb (S:Nat->Prop)(w:X)(g:Nat)(s:Sr.Sh)(r:Sr.Sh×Nat)(e:Ending)(w':X):Prop where
 ret:e=Y (.tuple #[I J (Sr.CU s r.2),I J (r.2:Int)])
 at_:gX w' (gB S w) g r.1
 turns:Turns S w w'
section
variable {s:Sr.Sh} {S:Nat->Prop} {g:Nat} {w:X}
theorem zG (h:gX w S g s)(ok:Sr.Ok s)(a:Int)(m:ay)(L:m.size<=1000000):
 Calls prog 170 #[Q (M ⟨g,0,U⟩),I J a,V m] w (Xb S w g s (Sr.create s a m)):=by
 have b:Below w.heap.size w ((w.alloc (K #[I J a] 3)).alloc (K #[V m] 9)):=((eY _ _).alloc (aM _) _).alloc (by simp) _;have B:((w.alloc (K #[I J a] 3)).alloc (K #[V m] 9)).cell? ⟨w.heap.size,0,U⟩=M (I J a):=jE _ _ _ _ (kS _ _ _ _ rfl);have N:((w.alloc (K #[I J a] 3)).alloc (K #[V m] 9)).cell? ⟨w.heap.size+1,0,U⟩=M (V m):=kS _ _ _ _ (by simp);have k:((w.alloc (K #[I J a] 3)).alloc (K #[V m] 9)).heap.size=w.heap.size+2:=by simp
 obtain⟨d,C⟩:∃W,((w.alloc (K #[I J a] 3)).alloc (K #[V m] 9))=W:=⟨_,rfl⟩;rw[C] at b B N k;have h2:=h.stay b;obtain⟨gs,gl,ao,ca,P,D⟩:=h2;obtain⟨⟨c0,c1⟩,_⟩:=kG D.row;have hl:=ok.FR;have HN:=GI s.h P gs d D.sQ ok.h.CJ (by omega);obtain⟨u,G,hcv,f,hs3,l⟩:=Vp (P:=prog) d m 9 31 5 underlying9 underlying31 underlying5;have n:=then_ b f;have x:=(eY _ G).alloc (aM _) (K #[I J 1,I J (s.h.last+1),I J a,Z (M ⟨d.heap.size,0,U⟩) m.size u] 226);have o:=then_ n x;have j:∀W,Below (G.alloc (K #[I J 1,I J (s.h.last+1),I J a,Z (M ⟨d.heap.size,0,U⟩) m.size u] 226)).heap.size (G.alloc (K #[I J 1,I J (s.h.last+1),I J a,Z (M ⟨d.heap.size,0,U⟩) m.size u] 226)) W->W.cell? ⟨w.heap.size,0,U⟩=M (I J a)∧W.cell? ⟨w.heap.size+1,0,U⟩=M (V m):=fun W y=>by
  have q:=then_ f (then_ x y);exact⟨(q.cell (p:=⟨w.heap.size,0,U⟩) (show w.heap.size<d.heap.size by omega)).trans B,(q.cell (p:=⟨w.heap.size+1,0,U⟩) (show w.heap.size+1<d.heap.size by omega)).trans N⟩
 have HC:=Xa s S g w.heap.size (w.heap.size+1) ⟨1,s.h.last+1,a,m.data.toList⟩ (M ⟨d.heap.size,0,U⟩) m.size u (Sr.made s.h a m) _ (h.stay o) ok (l.stay x) (by simp) (fun W g' y _ hS=>S9 s.h _ g' w.heap.size (w.heap.size+1) a m W hS ok.h (j W y).1 (j W y).2 (by omega) L);have Qi:∀(T:Fn) (first t:Array Value) (w:X),(Instr.makeFunc T first t).run prog w=.ok (.func T first t) w:=fun _ _ _ _=>rfl;have d1:=(f.cell (p:=⟨w.heap.size,0,U⟩) (show w.heap.size<d.heap.size by omega)).trans B;unfold Sr.create;generalize Sr.write s _ _=r at *;have UD:∀c:Nat,c=0->Sr.CU s c=s.h.last+1:=fun c i=>by unfold Sr.CU;rw[if_pos i]
 have H:∀c:Nat,c≠0->Sr.CU s c=0:=fun c i=>by unfold Sr.CU;rw[if_neg i]
 clear h ok b n  x j D k  l f c1 L;generalize hla:s.h.last=la at *;go_enter func170,ntmps170;go_wp2_with fail
 refine HN.mono ?_;rintro e w1 ⟨rfl,hw⟩;rw[hw];clear hw;go_wp2_with fail
 refine HC.mono ?_;intro e w2 hd;have z:=iw.from_ o hd;obtain⟨rfl,_,_⟩:=hd;by_cases i:r.2=0
 . rw[i];go_wp2;go_ret2;exact⟨by rw[UD _ i,i];rfl,z.at_,z.turns⟩
 . have hc':¬(r.2:Int)=0:=by omega
   have HX:∀v,v=(r.2:Int)->Xb S w g s r (Y (.tuple #[I J 0,I J v])) w2:=fun v hv=>⟨by rw[H _ i,hv],z.at_,z.turns⟩;generalize (r.2:Int)=rc at *;go_wp2;go_ret2;exact HX _ rfl
end
theorem jg.anew {w:X}{g:Nat}{f ln:Value}{fo:ak}{nf fZ:Nat}{e pl c d:Int}(h:jg w g f e ln fo nf fZ pl c d)(a b:Int):
 jg (((((((w.setCell ⟨g,0,U⟩ (Q U)).setCell ⟨g,1,U⟩ (I J 0)).setCell ⟨g,2,U⟩ (Q U)).setCell ⟨g,3,U⟩ (Z U 0 0)).setCell ⟨g,4,U⟩ (I J a)).setCell ⟨g,5,U⟩ (I J 0)).setCell ⟨g,6,U⟩ (I J b)) g (Q U) 0 (Q U) U 0 0 a 0 b ∧
 Turns (fun k=>k=g) w (((((((w.setCell ⟨g,0,U⟩ (Q U)).setCell ⟨g,1,U⟩ (I J 0)).setCell ⟨g,2,U⟩ (Q U)).setCell ⟨g,3,U⟩ (Z U 0 0)).setCell ⟨g,4,U⟩ (I J a)).setCell ⟨g,5,U⟩ (I J 0)).setCell ⟨g,6,U⟩ (I J b)):=by
 have i:jg (w.setCell ⟨g,0,U⟩ (Q U)) g (Q U) e ln fo nf fZ pl c d:=⟨by rw[fu w g 0 _ _ _ h.row];rfl⟩;have j:=i.s1 0;have l:jg (((w.setCell ⟨g,0,U⟩ (Q U)).setCell ⟨g,1,U⟩ (I J 0)).setCell ⟨g,2,U⟩ (Q U)) g (Q U) 0 (Q U) fo nf fZ pl c d:=⟨by rw[fu _ g 2 _ _ _ j.row];rfl⟩;have m:=((l.s3 U 0 0).s4 a).s5 0;refine⟨⟨by rw[fu _ g 6 _ _ _ m.row];rfl⟩,gY g [Q U,I J 0,Q U,Z U 0 0,I J a,I J 0,I J b] 0 w⟩
theorem yu (w:X)(S So:Nat->Prop)(g gt:Nat)(m:av)(s:Fm.St)(c:UInt8)(t:Fm.Td)(h:jR w S g m s)(q:Fm.live s)(N:s.place=1∨s.place=2∨s.place=3∨s.place=4)(hO:mK w So gt t)(hd:∀k,S k->¬So k)(hes:t.es.length<=80000):
 Calls prog 316 #[Q (M ⟨g,0,U⟩),Q (M ⟨gt,0,U⟩),I .u8 c.toNat] w fun e w'=>Zy w S So g gt m s c t e w':=by
 have T:=Pair.start h hO hd;have hN:=Fm.Rt m N q.1 c;have r:=Xh w s.place c N;cases T.fm with
 | dead W u row=>exact absurd q W
 | live W u gs gl p fo fZ D row inn =>
   have j:=T;have v:=H9 hN;have xV:=H9 row;have HL:=H9 q;have z:=H9 u
   have c4:=row.c4;have f4:=row.fz 4
   have hlt:=row.lt;have B:¬So g:=hd g u.1;generalize hx:(Fm.turn s.place c).1=x at *;generalize hy:(Fm.turn s.place c).2=y at *;by_cases b:y=0
   . subst b;by_cases d:x=6
     . subst d;have a:=xV.o.s4 6;have c0':=a.c0;have c1':=a.c1;have c2':=a.c2;have c3':=a.c3;have c4':=a.c4;have c5':=a.c5;have c6':=a.c6
       have f0':=a.fz 0;have f1':=a.fz 1;have f2':=a.fz 2;have f3':=a.fz 3;have f4':=a.fz 4;have f5':=a.fz 5;have f6':=a.fz 6
       obtain⟨Yu,Eb⟩:=a.anew 6 0;have Qx:=Yu;have OE:=H9 Eb
       have hT:=((jg.set w g 4 (I J 6)).trans Eb (fun _ e _=>e)).mono (S':=fun k=>S k∧k<w.heap.size) (fun k e=>by subst e;exact z.o);have f:jR _ (fun k=>S k∧k<w.heap.size) g m Fm.done:=.dead Fm.Rs z.o Qx;have l:=j.form f hT;go_enter func316,ntmps316;go_wp2_with fail
       refine r.mono ?_;rintro e i ⟨rfl,n⟩;subst n;go_wp2_with fail
       refine(wZ _ _ gt t 3 ⟨#[]⟩ ⟨#[]⟩ ⟨#[]⟩ 0 l.td (by decide) (by omega)).mono ?_;rintro e w5 ⟨rfl,vX,wm⟩;have C:=(l.told vX wm).1;go_wp2;go_ret;refine .ok rfl ?_;rw[v.o];exact C
     . have t6:((x:Int)==6)=F:=by rw[aR];omega
       obtain⟨G,H⟩:=j.fm.move HL.o x d;have C:=(j.form G H).went;go_enter func316,ntmps316;go_wp2_with fail
       refine r.mono ?_;rintro e i ⟨rfl,n⟩;subst n;go_wp2;go_ret;refine .ok rfl ?_;rw[v.o,if_neg (fun e=>e rfl),if_neg d];exact C
   . have hx0:x≠6:=fun e=>by
      have:=Fm.Ru s.place c;rw[hx,hy] at this;exact b (this e)
     have t6:((x:Int)==6)=F:=by rw[aR];omega
     have L:=xV.o.s4 (x:Int);go_enter func316,ntmps316;go_wp2_with fail
     refine r.mono ?_;rintro e i ⟨rfl,n⟩;subst n;have HT:Turns (fun k=>S k∧k<i.heap.size) i (i.setCell ⟨g,4,U⟩ (I J (x:Int))):=(jg.set i g 4 _).mono (fun k e=>by subst e;exact z.o);go_wp2;go_ret;refine .fail y b (by rw[v.o,if_pos b]) rfl ?_;exact .mk _ _ _ _ _ _ _ _ _ _ L (j.td.turns HT (fun k e e2=>j.apart k e2.1 e.1)) (fun e=>B e.1) (fun k e=>A e.1) (HT.mono (fun k e=>A e.1))
inductive abT (w:X)(g:Nat)(fo:ak)(nf:Nat)(fs:List Rq.Fl)(t:av)(e:Ending)(w':X):Prop
 | many (h:nf=16) (he:e=Y (I J 8)) (hw:w'=w)
 | bad (h:nf≠16) (c:Nat) (hc:c≠0) (hd:(Fd.of t).code=c) (he:e=Y (I J (c:Int))) (hB:Below w.heap.size w w')
 | ok (h:nf≠16) (hd:(Fd.of t).code=0) (w3:X) (g3 gZ:Nat) (he:e=Y (I J 0)) (hw:w'=w3.setCell ⟨g,3,U⟩ (Z (M ⟨g3,0,U⟩) (nf+1) gZ)) (hO:gH w3 0 131 2 (M ⟨g3,0,U⟩) gZ (nf+1) (gG (Rq.nu (fs++[((Fd.of t).name,(Fd.of t).value)])))) (hT:Turns (fun k=>fV fo=M k) w w3) (hat:fV fo=M g3∨w.heap.size<=g3)
theorem OG (w:X)(g:Nat)(fo:ak)(nf fZ:Nat)(D:List Rq.Fl)(t:ay)(c3:w.cell? ⟨g,3,U⟩=M (Z fo nf fZ))(f3:w.frozen? ⟨g,3,U⟩=F)(r:fV fo≠M g)(ho:gH w 0 131 2 fo fZ nf (gG (Rq.nu D)))(hn:nf<=16)(ht:t.size<=2000):
 Calls prog 341 #[Q (M ⟨g,2,U⟩),V t] w fun e w'=>abT w g fo nf D t.data.toList e w':=by
 by_cases i:nf=16
 . have L:((nf:Int)==16)=true:=by rw[i];rfl
   go_enter func341,ntmps341;go_wp2;go_ret;exact .many i rfl rfl
 . have L:((nf:Int)==16)=F:=by rw[aR];omega
   have s:=wT t w ht;unfold Fd.val at s;have n:=fH w _ c3;by_cases N:(Fd.of t.data.toList).code=0
   . rw[N] at s;obtain⟨c,v⟩:∃c:ay,(⟨(Fd.of t.data.toList).name.toArray⟩:ay)=c:=⟨_,rfl⟩;obtain⟨d,x⟩:∃d:ay,(⟨(Fd.of t.data.toList).value.toArray⟩:ay)=d:=⟨_,rfl⟩;rw[v,x] at s;have T:Hid (gG (Rq.nu D)++[V c,V d]=gG (Rq.nu (D++[((Fd.of t.data.toList).name,(Fd.of t.data.toList).value)]))):=by
      unfold Hid;rw[Rq.DC,pW,<-v,<-x];rfl
     have hK:∀W,Below w.heap.size w W->W.cell? ⟨g,3,U⟩=M (Z fo nf fZ):=fun W y=>(y.cell n).trans c3;have hK2:∀W G,Below w.heap.size w W->W.grownBy G (Value.slice fo nf fZ).ownBlock->G.cell? ⟨g,3,U⟩=M (Z fo nf fZ)∧G.frozen? ⟨g,3,U⟩=F:=fun W G y q=>by
      rw[gD] at q;have hb:W.heap[g]? = w.heap[g]?:=y.block g n;refine⟨q.cell (hK W y) (fun e=>r e.symm),?_⟩;rw[fP (a:=⟨g,3,U⟩) ((q.block g (bZ n y.size) (fun e=>r e.symm)).trans hb)];exact f3
     have HK:=hK;have z:=H9 hK2
     obtain⟨i0,hi0,hz0,hz1,hz2⟩:=info_parts pq;have Hi:=hi0;have kY:=H9 hz0;have kT:=H9 hz1;have kZ:=H9 hz2
     have HN:nf+1<=maxLen∧(nf+1)*32<=140737488355328:=⟨by unfold maxLen;omega,by omega⟩;go_enter func341,ntmps341;go_wp2_with fail
     refine s.mono ?_;rintro e l ⟨rfl,B⟩;have p:Below w.heap.size w (l.alloc (K #[V c,V d] 131)):=B.trans ((eY _ _).alloc B.size _);have C:Below w.heap.size w ((l.alloc (K #[V c,V d] 131)).alloc (K #[V c,V d] 131)):=p.trans ((eY _ _).alloc p.size _);have m:Below w.heap.size w ((l.alloc (K #[V c,V d] 131)).alloc (K #[V c,V d] 131)).drew:=C.trans ⟨rfl,rfl,rfl,aM _,fun _ _=>rfl⟩;have k3:=HK _ p;have j3:=HK _ C;have UK:=gH.below ho m (fun a e=>(ho.block a e).2);have WT:∀j u,([V c,V d]:List Value)[j]? = M u->((l.alloc (K #[V c,V d] 131)).alloc (K #[V c,V d] 131)).drew.cell? (Addr.add ⟨l.heap.size+1,0,U⟩ j)=M u:=fun j u H=>by
      rw[fQ,aZ];show((l.alloc (K #[V c,V d] 131)).alloc (K #[V c,V d] 131)).cell? _=_;rw[World.cell?_alloc_at _ _ _ _ (by simp),dD];exact H
     have HS:=B.size;go_wp2;go_region_law
      ((refine step_append_lies _ (by rfl) _ _ _ (by rfl) 0 131 i0 (.agg #[V ⟨#[]⟩,V ⟨#[]⟩]) 2 32 underlying80 Hi kY.o kT.o kZ.o (by rfl) (by decide) (Z fo nf fZ) nf _ (by rfl) UK ⟨l.heap.size+1,0,U⟩ 1 1 [V c,V d] (by rfl) (by rfl) WT (fun u H=>by simp at H;rcases H with rfl | rfl <;> rfl) (by decide) HN.1 HN.2 (aA _) (l.heap.size+2) (by simp) ?_;intro g3 gZ w3 f b jQ hlt3;have xU:=H9 b;have rZ:=H9 f;have Jy:=H9 jQ;have q3:=(z.o _ _ m b).1;have qf:=(z.o _ _ m b).2;clear b f jQ))
     all_goals
      go_wp2;go_ret;have q:=xU.o;have hA:=Jy.o
      rw[gD] at q hA;refine .ok i N w3 g3 gZ rfl rfl (by rw[<-T.o];exact rZ.o) ((Turns.of_below m).trans (Turns.iL (S:=fun k=>fV fo=M k) q (fun k e=>e)) (fun _ e _=>e)) ?_;rcases hA with e | e
      . exact A e
      . exact R (by have:=HS;omega)
   . have tc:(((Fd.of t.data.toList).code:Int)==0)=F:=by rw[aR];omega
     generalize hcc:(Fd.of t.data.toList).code=cc at *;go_enter func341,ntmps341;go_wp2_with fail
     refine s.mono ?_;rintro e l ⟨rfl,B⟩;have vP:=then_ B ((eY _ _).alloc (aM _) (K #[V ⟨(Fd.of t.data.toList).name.toArray⟩,V ⟨(Fd.of t.data.toList).value.toArray⟩] 131));go_wp2;go_ret;exact .bad i cc N hcc rfl vP
inductive BG (w:X)(S So:Nat->Prop)(g gt:Nat)(m:av)(s:Fm.St)(tx:av)(t:Fm.Td)(e:Ending)(w':X):Prop
 | ok (he:e=Y (I J 0)) (h:yt w S So g gt m (Fm.line s tx).1 (Fm.tells t (Fm.line s tx).2) w')
 | fail (k:Nat) (hk:k≠0) (hN:Fm.line s tx=Fm.fails k) (he:e=Y (I J (k:Int))) (h:OD w S So g gt t w')
theorem OH {s:Fm.St}{p:Fm.YR}(b:Fm.part s.fields=.inr p)(a:s.parts≠12):Fm.line s []=({ s with fields:=[],parts:=s.parts+1,place:=0,held:=2,ahead:=2 },[Fm.PX p]):=by
 have:=Fm.Rv (s:=s) b a;exact this
theorem Tx {s:Fm.St}{c:Nat}(a:Fm.part s.fields=.inl c):Fm.line s []=Fm.fails c:=by
 unfold Fm.line;rw[if_neg (fun h=>h rfl),a]
theorem Tz {s:Fm.St}{p:Fm.YR}(b:Fm.part s.fields=.inr p)(a:s.parts=12):Fm.line s []=Fm.fails 8:=by grind [Fm.part,Fm.line,Fm.fails]
theorem TA (w:X)(S So:Nat->Prop)(g gt:Nat)(m:av)(s:Fm.St)(t:Fm.Td)(h:jR w S g m s)(hl:Fm.live s)(h0:s.held=0)(hm:s.fields.length<=16)(hsh:∀f∈s.fields,f.1.length<=200∧f.2.length<=200)(hpt:s.parts<=12)(hO:mK w So gt t)(hd:∀k,S k->¬So k)(h2:m.take 2=[13,10])(h3:3<=m.length)(hL:m.length<=1000)(hes:t.es.length<=80000):
 Calls prog 342 #[Q (M ⟨g,0,U⟩),Q (M ⟨gt,0,U⟩)] w fun e w'=>BG w S So g gt m s [] t e w':=by
 have hP:=Pair.start h hO hd;cases hP.fm with
 | dead h2 me row=>exact absurd hl h2
 | live hl2 me C gl p fo fZ D row inn =>
   have v:Turns (fun k=>k=g) w (w.setCell ⟨g,3,U⟩ (Z U 0 0)):=jg.set w g 3 _;have r1:=row.s3 U 0 0;have i0:rY w (fun k=>(S k∧k<w.heap.size)∧k≠g) m { s with fields:=[] } C gl p U 0 D:=⟨inn.sk,inn.zH,inn.OA,inn.ln,gH.nil _ _ _ _,fun a e=>(by cases e)⟩;have i1:=i0.turns v (fun k e=>e.2);have hV:=inn.own.qE.turns v (fun a e=>(inn.fC a e).1.2);have hne:g≠C:=fun e=>inn.zH.1.2 e.symm;have MF:=Tn w g fo s.fields.length fZ row.c3 (row.fz 3);have r:=H9 (Xm (Rq.nu s.fields) fo fZ s.fields.length _ hV (Rq.qI _) (by omega) (fun q hq=>by
    unfold Rq.nu at hq;obtain⟨f,hf,rfl⟩:=aN.1 hq;have:=hsh f hf;refine⟨?_,?_⟩
    . show f.1.toArray.size<=_;rw[bK];omega
    . show f.2.toArray.size<=_;rw[bK];omega))
   rw[Rq.Qg] at r;have HP:=hP;have x:=H9 r1;have G:=H9 i1;have y:=H9 v;have Zx:=H9 me;have HLv:=H9 hl;have HH0:=H9 h0
   have hlt:=row.lt;have H:¬So g:=hd g me.1;have HM:m.take 2=[13,10]∧3<=m.length∧m.length<=1000:=⟨h2,h3,hL⟩;have L:∀(u:X),Below (w.setCell ⟨g,3,U⟩ (Z U 0 0)).heap.size (w.setCell ⟨g,3,U⟩ (Z U 0 0)) u->OD w S So g gt t u:=fun u hb=>by
    have hTd:=(HP.td.turns y.o (fun k e e2=>by subst e2;exact H e.1)).stay hb;exact .mk _ _ _ _ _ _ _ _ _ _ (x.o.stay hb) hTd (fun e=>H e.1) (fun k e=>A e.1) ((y.o.mono (S':=fun k=>S k∨So k) (fun k e=>by subst e;exact A Zx.o.1)).trans (Turns.of_below hb) (fun _ e _=>e))
   cases d:Fm.part s.fields with
   | inl k =>
     have hk:=Fm.Rw d;have N:=Tx d;rw[d] at r;unfold Fm.Lv at r;simp only at r;have tc:((k:Int) != 0)=true:=by rw[cK];omega
     go_enter func342,ntmps342;go_wp2_with fail
     refine MF.mono ?_;rintro e w1 ⟨rfl,T⟩;subst T;go_wp2_with fail
     refine r.o.mono ?_;rintro e n ⟨rfl,i⟩;have HF:=L _ (then_ i ((eY _ _).alloc (aM _) (K #[V ⟨#[]⟩,V ⟨#[]⟩,V ⟨#[]⟩,Z U 0 0] 96)));go_wp2;go_ret;exact .fail k hk N rfl HF
   | inr c =>
     rw[d] at r;unfold Fm.Lv at r;simp only at r;by_cases z:s.parts=12
     . have N:=H9 (Tz d z);have t12:((s.parts:Int)==12)=true:=by rw[z];rfl
       go_enter func342,ntmps342;go_wp2_with fail
       refine MF.mono ?_;rintro e w1 ⟨rfl,T⟩;subst T;go_wp2_with fail
       refine r.o.mono ?_;rintro e n ⟨rfl,i⟩;have j:=then_ i ((eY _ _).alloc (aM _) (K #[V ⟨c.name.toArray⟩,V ⟨c.file.toArray⟩,V ⟨c.type.toArray⟩,Z U 0 0] 96));have HF:=L _ j;have c5:=(x.o.stay j).c5;go_wp2;go_ret;exact .fail 8 (by decide) N rfl HF
     . have N:=H9 (OH d z);have t12:((s.parts:Int)==12)=F:=by rw[aR];omega
       go_enter func342,ntmps342;go_wp2_with fail
       refine MF.mono ?_;rintro e w1 ⟨rfl,T⟩;subst T;go_wp2_with fail
       refine r.o.mono ?_;rintro e n ⟨rfl,i⟩;have j:=then_ i ((eY _ _).alloc (aM _) (K #[V ⟨c.name.toArray⟩,V ⟨c.file.toArray⟩,V ⟨c.type.toArray⟩,Z U 0 0] 96));have B:=eX n (K #[V ⟨c.name.toArray⟩,V ⟨c.file.toArray⟩,V ⟨c.type.toArray⟩,Z U 0 0] 96);have hw2:w.heap.size<=n.heap.size:=by have:=i.size;simpa using this
       go_upto_region 2 with fail
       generalize hW2:(n.alloc (K #[V ⟨c.name.toArray⟩,V ⟨c.file.toArray⟩,V ⟨c.type.toArray⟩,Z U 0 0] 96))=u at *;have W:=x.o.stay j;have r3:=(W.s5 ((s.parts:Int)+1)).s4 0;have nL:Turns (fun k=>k=g) u ((u.setCell ⟨g,5,U⟩ (I J ((s.parts:Int)+1))).setCell ⟨g,4,U⟩ (I J 0)):=(jg.set u g 5 _).trans (jg.set _ g 4 _) (fun _ e _=>e);have i3:=(G.o.stay j).turns nL (fun k e=>e.2);have c5:=W.c5;have f5:=W.fz 5
       have c4:=(W.s5 ((s.parts:Int)+1)).c4;have f4:=(W.s5 ((s.parts:Int)+1)).fz 4
       have hSk:mq ((u.setCell ⟨g,5,U⟩ (I J ((s.parts:Int)+1))).setCell ⟨g,4,U⟩ (I J 0)) C m 0 p:=by have:=i3.sk;rw[show({ s with fields:=[] }:Fm.St).held=0 from HH0.o] at this;exact this
       have N8:=xG _ g C m p _ r3.c0 r3.c1 (r3.fz 1) hne hSk HM.1 HM.2.1 (by have:=HM.2.2;omega);have HB3:=j;have ad8:=H9 B;have HR3:=H9 r3;have HT3:=H9 nL;have HI3:=H9 i3
       go_wp2_with fail
       refine N8.mono ?_;rintro e l ⟨w4,rfl,Cy,hS5,IL⟩;obtain⟨r5,t5⟩:=jR.sought (s:={ s with fields:=[],parts:=s.parts+1,place:=0 }) (a2:=2) (S:=fun k=>S k∧k<w.heap.size) ⟨HLv.o.1,by show(0:Nat)≠6;decide⟩ Zx.o HR3.o (HI3.o.as rfl rfl rfl) hS5 IL;have e5:w4.setCell ⟨g,1,U⟩ (I J ((2:Nat):Int))=l:=Cy.symm;rw[e5] at r5 t5;have hgs:C<w.heap.size:=by have:=G.o.sk.lt;simpa using this
       have Cb:∀{a b:X},Turns (fun k=>k=g) a b->Turns (fun k=>S k∧k<w.heap.size) a b:=fun hh=>hh.mono (fun k e=>by subst e;exact Zx.o);have aaB:Turns (fun k=>S k∧k<w.heap.size) w l:=(((Cb y.o).trans (Turns.of_below HB3) (fun _ e _=>e)).trans (Cb HT3.o) (fun _ e _=>e)).trans t5 (fun _ e _=>e);have QF:=HP.form r5 aaB;have q1:=HT3.o.row ad8.o (fun e=>by omega);have q2:w4.heap[n.heap.size]? = _:=(IL.block _ (aL.1 q1).1 (fun e=>by injection e with e;omega)).trans q1;have q3:l.heap[n.heap.size]? = M (K #[V ⟨c.name.toArray⟩,V ⟨c.file.toArray⟩,V ⟨c.type.toArray⟩,Z U 0 0] 96 (0,0)):=by
        rw[<-e5];exact(jg.set w4 g 1 _).row q2 (fun e=>by omega)
       have p0:l.cell? ⟨n.heap.size,0,U⟩=M (V ⟨c.name.toArray⟩):=eZ l _ 0 _ _ _ q3;have p1:l.cell? ⟨n.heap.size,1,U⟩=M (V ⟨c.file.toArray⟩):=eZ l _ 1 _ _ _ q3;have p2:l.cell? ⟨n.heap.size,2,U⟩=M (V ⟨c.type.toArray⟩):=eZ l _ 2 _ _ _ q3;have p3:l.cell? ⟨n.heap.size,3,U⟩=M (Z U 0 0):=eZ l _ 3 _ _ _ q3;have Zv:=wZ l _ gt t 5 ⟨c.name.toArray⟩ ⟨c.file.toArray⟩ ⟨c.type.toArray⟩ 0 QF.td (by decide) (by omega);clear r5 t5 e5 aaB  q1 q2 q3 Cb Cy hS5 IL hgs;go_wp2_with fail
       refine Zv.mono ?_;rintro e w6 ⟨rfl,Ea,BF⟩;have HW:=(QF.told Ea BF).1;clear Ea BF;go_wp2;go_ret;refine .ok rfl ?_;rw[N];exact HW
theorem OD.then_ {w0 w w':X}{S So f j:Nat->Prop}{g gt:Nat}{l:Fm.Td}(a:∀k,f k->S k∨w0.heap.size<=k)(m:∀k,j k->So k∨w0.heap.size<=k)(n:Turns (fun k=>S k∨So k) w0 w)(o:OD w f j g gt l w'):OD w0 S So g gt l w':=by
 obtain⟨b,p,q,r,pl,s,t,u,v,x,y,c,d,z,B⟩:=o;have C:=n.size;refine .mk b p q r pl s t u v x y c d (fun k e=>?_) (n.trans B (fun i e D=>?_))
 . rcases z k e with e | e
   . exact m k e
   . exact R (by omega)
 . rcases e with e | e
   . rcases a i e with e | e
     . exact A e
     . omega
   . rcases m i e with e | e
     . exact R e
     . omega
theorem BG.took {w0 w w':X}{S So d f:Nat->Prop}{g gt:Nat}{m:av}{s i:Fm.St}{c:UInt8}{j:av}{t:Fm.Td}{e:Ending}(l:Fm.next m s c=Fm.line i j)(a:∀k,d k->S k∨w0.heap.size<=k)(n:∀k,f k->So k∨w0.heap.size<=k)(o:Turns (fun k=>S k∨So k) w0 w)(h:BG w d f g gt m i j t e w'):Zy w0 S So g gt m s c t e w':=by
 cases h with
 | ok b h=>exact .ok b (by rw[l];exact yt.then_ a n o h)
 | fail k p q b h=>exact .fail k p (l.trans q) b (OD.then_ a n o h)
theorem Fp (w:X)(S So:Nat->Prop)(g gt:Nat)(m:av)(s:Fm.St)(d:av)(t:Fm.Td)(h:jR w S g m s)(hl:Fm.live s)(hm:s.fields.length<=16)(hO:mK w So gt t)(hd:∀k,S k->¬So k)(W:d≠[])(hz:d.length<=200):
 Calls prog 341 #[Q (M ⟨g,2,U⟩),V ⟨d.toArray⟩] w fun e w'=>BG w S So g gt m s d t e w':=by
 have N:=Pair.start h hO hd;cases N.fm with
 | dead h2 T row=>exact absurd hl h2
 | live hl2 T gs gl p z fZ D row inn =>
   have v:¬So g:=hd g T.1;refine(OG w g z s.fields.length fZ s.fields ⟨d.toArray⟩ row.c3 (row.fz 3) (fun e=>?_) inn.own hm (by show d.toArray.size<=_;rw[bK];omega)).mono ?_
   . cases z with
     | none=>cases e
     | some a=>injection e with e;exact(inn.fC a rfl).1.2 e
   . intro e w' hF;have B:Fm.line s d=if s.fields.length=16 then Fm.fails 8 else if (Fd.of d).code≠0 then Fm.fails (Fd.of d).code else ({ s with fields:=s.fields++[((Fd.of d).name,(Fd.of d).value)] },[]):=by
      unfold Fm.line;rw[if_pos W]
     cases hF with
     | many q G hw =>
       rw[if_pos q] at B;subst hw;exact .fail 8 (by decide) B G (.mk _ _ _ _ _ _ _ _ _ _ row N.td (fun e=>v e.1) (fun k e=>A e.1) (Turns.refl _ _))
     | bad q c hc n G hB =>
       have n:=n;rw[if_neg q,n,if_pos hc] at B;exact .fail c hc B G (.mk _ _ _ _ _ _ _ _ _ _ (row.stay hB) (N.td.stay hB) (fun e=>v e.1) (fun k e=>A e.1) (Turns.of_below hB))
     | ok q n r o x G hw H C y =>
       have n:=n;rw[if_neg q,n,if_neg (fun e=>e rfl)] at B;refine .ok G ?_;rw[B];subst hw;have i:∀k,fV z=M k->∃a,z=M a∧a.block=k:=fun k e=>by
        cases z with
        | none=>cases e
        | some a=>injection e with e;exact⟨a,rfl,e⟩
       have hz3:=C.size;have vQ:Turns (fun k=>k=g) r (r.setCell ⟨g,3,U⟩ (Z (M ⟨o,0,U⟩) (s.fields.length+1) x)):=jg.set r g 3 _;have hlt:=row.lt;have r3:=(row.turns C (fun e=>by obtain⟨a,j,l⟩:=i g e;exact(inn.fC a j).1.2 l)).s3 (M ⟨o,0,U⟩) (s.fields.length+1) x;have hg3:o<r.heap.size:=(H.block _ rfl).2;have agG:o≠g:=fun e=>by
        rcases y with f | f
        . obtain⟨a,j,l⟩:=i o f;exact(inn.fC a j).1.2 (l.trans e)
        . omega
       have u:(s.fields++[((Fd.of d).name,(Fd.of d).value)]).length=s.fields.length+1:=by rw[aV];rfl
       have i3:rY r (fun k=>(S k∧k<w.heap.size∨w.heap.size<=k∧k<r.heap.size)∧k≠g) m { s with fields:=s.fields++[((Fd.of d).name,(Fd.of d).value)] } gs gl p (M ⟨o,0,U⟩) x (fun k=>D k∧k<w.heap.size):=by
        refine⟨inn.sk.turns C ?_ ?_ ?_,⟨⟨A inn.zH.1.1,inn.zH.1.2⟩,⟨A inn.zH.2.1.1,inn.zH.2.1.2⟩,fun a e=>⟨A (inn.zH.2.2 a e).1,(inn.zH.2.2 a e).2⟩⟩,⟨fun e=>inn.OA.1 e.1,fun e=>inn.OA.2.1 e.1,fun a e f=>inn.OA.2.2 a e f.1⟩,?_,?_,?_⟩
        . intro e;obtain⟨a,j,l⟩:=i _ e;exact(inn.fs a j).1 l
        . intro e;obtain⟨a,j,l⟩:=i _ e;exact(inn.fs a j).2.1 l
        . intro b hb e;obtain⟨a,j,l⟩:=i _ e;exact(inn.fs a j).2.2 b hb l
        . have:=(inn.ln.mono (S':=fun k=>((S k∧k<w.heap.size∨w.heap.size<=k∧k<r.heap.size)∧k≠g)∧(D k∧k<w.heap.size)) (fun k hk e=>⟨⟨A e.1.1,e.1.2⟩,e.2,hk⟩));exact this.turns C (fun k e f=>by obtain⟨a,j,l⟩:=i _ f;exact(inn.fC a j).2 (l▸e.2.1))
        . show gH r 0 131 2 (M ⟨o,0,U⟩) x (s.fields++[((Fd.of d).name,(Fd.of d).value)]).length _;rw[u];exact H
        . intro a e;injection e with e;subst e;refine⟨⟨?_,agG⟩,fun f=>?_⟩
          . rcases y with f | f
            . obtain⟨a,j,l⟩:=i o f;exact A (l▸(inn.fC a j).1.1)
            . exact R ⟨f,hg3⟩
          . rcases y with e3 | e3
            . obtain⟨a,j,l⟩:=i o e3;exact(inn.fC a j).2 (l▸f.1)
            . have h9:o<w.heap.size:=f.2;omega
       have i4:=i3.turns vQ (fun k e=>e.2);have r4:jg (r.setCell ⟨g,3,U⟩ (Z (M ⟨o,0,U⟩) (s.fields.length+1) x)) g (Q (M ⟨gs,0,U⟩)) (s.ahead:Int) (Q (M ⟨gl,0,U⟩)) (M ⟨o,0,U⟩) (s.fields++[((Fd.of d).name,(Fd.of d).value)]).length x (s.place:Int) (s.parts:Int) (s.code:Int):=by rw[u];exact r3
       have L:∀k,fV z=M k->S k∧k<w.heap.size:=fun k e=>by obtain⟨a,j,l⟩:=i k e;exact l▸(inn.fC a j).1.1
       refine .mk (fun k=>S k∧k<w.heap.size∨w.heap.size<=k∧k<r.heap.size) (fun k=>So k∧k<w.heap.size) (.live (s:={ s with fields:=s.fields++[((Fd.of d).name,(Fd.of d).value)] }) hl (A T) gs gl p _ x _ r4 i4) ((N.td.turns C (fun k e f=>hd k (L k f).1 e.1)).turns vQ (fun k e f=>by subst f;exact v e.1)) (fun k e f=>?_) (fun k e=>?_) (fun k e=>A e.1) ?_
       . rcases e with e | e
         . exact hd k e.1 f.1
         . have:=f.2;omega
       . rcases e with e | e
         . exact A e.1
         . exact R e.1
       . exact(C.mono (S':=fun k=>S k∨So k) (fun k e=>A (L k e).1)).trans (vQ.mono (S':=fun k=>S k∨So k) (fun k e=>by subst e;exact A T.1)) (fun _ e _=>e)
theorem jR.lined {w f:X}{S:Nat->Prop}{g gs i:Nat}{m:av}{s:Fm.St}{p:Ox}{fo:ak}{fZ:Nat}{D:Nat->Prop}{d:Ln.St}(n:Fm.live s)(o:S g)(b:∀k,S k->k<w.heap.size)(row:jg w g (Q (M ⟨gs,0,U⟩)) (s.ahead:Int) (Q (M ⟨i,0,U⟩)) fo s.fields.length fZ (s.place:Int) (s.parts:Int) (s.code:Int))(inn:rY w (fun k=>S k∧k≠g) m s gs i p fo fZ D)
 (q:gW f (gB (fun k=>(S k∧k≠g)∧D k) w) i d) (j:Turns (fun k=>(S k∧k≠g)∧D k) w f):jR f (fun k=>S k∨w.heap.size<=k∧k<f.heap.size) g m { s with ln:=d }:=by
 have r:=row.lt;refine .live n (A o) gs i p fo fZ (fun k=>D k∧k<w.heap.size∨w.heap.size<=k) (row.turns j (fun e=>e.1.2 rfl)) ⟨inn.sk.turns j (fun e=>inn.OA.1 e.2) (fun e=>inn.OA.2.1 e.2) (fun a e c=>inn.OA.2.2 a e c.2),⟨⟨A inn.zH.1.1,inn.zH.1.2⟩,⟨A inn.zH.2.1.1,inn.zH.2.1.2⟩,fun a e=>⟨A (inn.zH.2.2 a e).1,(inn.zH.2.2 a e).2⟩⟩,⟨?_,?_,?_⟩,q.mono (fun k t e=>?_),inn.own.turns j (fun a e c=>(inn.fC a e).2 c.2),fun a e=>⟨⟨A (inn.fC a e).1.1,(inn.fC a e).1.2⟩,?_⟩⟩
 . intro e;rcases e with e | e
   . exact inn.OA.1 e.1
   . have:=b _ inn.zH.1.1;omega
 . intro e;rcases e with e | e
   . exact inn.OA.2.1 e.1
   . have:=b _ inn.zH.2.1.1;omega
 . intro a l e;rcases e with e | e
   . exact inn.OA.2.2 a l e.1
   . have:=b _ (inn.zH.2.2 a l).1;omega
 . rcases e with e | e
   . exact⟨⟨A e.1.1,e.1.2⟩,A ⟨e.2,b k e.1.1⟩⟩
   . exact⟨⟨R ⟨e,t⟩,by omega⟩,R e⟩
 . intro c;rcases c with c | c
   . exact(inn.fC a e).2 c.1
   . have:=b _ (inn.fC a e).1.1;omega
theorem Jc (w:X)(S So:Nat->Prop)(g gt:Nat)(m:av)(s:Fm.St)(c:UInt8)(t:Fm.Td)(h:jR w S g m s)(C:Fm.live s)(hp:s.place=5)(H:Fm.Good m s)(hO:mK w So gt t)(hd:∀k,S k->¬So k)(L:m.take 2=[13,10])(h3:3<=m.length)(hL:m.length<=1000)(N:t.es.length<=80000):
 Calls prog 315 #[Q (M ⟨g,0,U⟩),Q (M ⟨gt,0,U⟩),I .u8 c.toNat] w fun e w'=>Zy w S So g gt m s c t e w':=by
 have T:=Pair.start h hO hd;have W:=Fm.Ro m hp C.1 c;cases T.fm with
 | dead L me row=>exact absurd C L
 | live hl2 me gs gl p fo fZ D row inn =>
   have l:=oM w _ gl s.ln c inn.ln H.ln.short;unfold Ln.fed at l;have c2:=row.c2;have HP:=T;have n:=H9 W;have xV:=H9 row
   have hgo:¬So g:=hd g me.1;have G:∀a,gW a (gB (fun k=>((S k∧k<w.heap.size)∧k≠g)∧D k) w) gl (Ln.next s.ln c)->Turns (fun k=>((S k∧k<w.heap.size)∧k≠g)∧D k) w a->jR a (fun k=>(S k∧k<w.heap.size)∨w.heap.size<=k∧k<a.heap.size) g m { s with ln:=Ln.next s.ln c }∧mK a (fun k=>So k∧k<w.heap.size) gt t∧Turns (fun k=>S k∨So k) w a:=fun a d b =>
    ⟨jR.lined C me (fun k e=>e.2) row inn d b,T.td.turns b (fun k e e2=>hd k e2.1.1.1 e.1),b.mono (fun k e=>A e.1.1.1)⟩
   have f:∀a:X,∀k,((S k∧k<w.heap.size)∨w.heap.size<=k∧k<a.heap.size)->¬(So k∧k<w.heap.size):=fun a k e e2=>by
    rcases e with e | e
    . exact hd k e.1 e2.1
    . omega
   have x:=H;have y:=H9 C;have HPl:=H9 hp;have HM:Hid (m.take 2=[13,10]∧3<=m.length∧m.length<=1000):=⟨L,h3,hL⟩
   by_cases q:(Ln.next s.ln c).code=0
   . have tc:(((Ln.next s.ln c).code:Int) != 0)=F:=by rw[q];rfl
     cases j:Ln.ends s.ln c with
     | false =>
       rw[j] at l n;rw[if_neg (fun e=>e q),if_neg (by simp)] at n;generalize z:((Ln.next s.ln c).code:Int)=cd at l tc;have HCd:Hid (cd=0):=by unfold Hid;rw[<-z,q];rfl
       generalize (⟨(Ln.text s.ln c).toArray⟩:ay)=tx at *;go_enter func315,ntmps315;go_wp2_with fail
       refine l.mono ?_;rintro e a ⟨rfl,d,b⟩;have i:=G a d b;go_wp2;go_ret;refine .ok (by rw[HCd.o];rfl) ?_;rw[n.o];exact .mk _ _ i.1 i.2.1 (f a) (fun k e=>e.imp (fun e=>e.1) (fun e=>e.1)) (fun k e=>A e.1) i.2.2
     | true =>
       rw[j] at l n;rw[if_neg (fun e=>e q),if_pos rfl] at n;have hsh:=(Rq.tY (c:=c) H.ln).1;have pO:=Fm.Df j;rw[q] at l;by_cases r:Ln.text s.ln c=[]
       . have HB:∀a,jR a (fun k=>(S k∧k<w.heap.size)∨w.heap.size<=k∧k<a.heap.size) g m { s with ln:=Ln.next s.ln c }->mK a (fun k=>So k∧k<w.heap.size) gt t->Calls prog 342 #[Q (M ⟨g,0,U⟩),Q (M ⟨gt,0,U⟩)] a fun e w'=>BG a (fun k=>(S k∧k<w.heap.size)∨w.heap.size<=k∧k<a.heap.size) (fun k=>So k∧k<w.heap.size) g gt m { s with ln:=Ln.next s.ln c } [] t e w':=fun a u sj =>
          TA a _ _ g gt m { s with ln:=Ln.next s.ln c } t u y.o (x.idle (by rw[HPl.o];decide)) x.many x.short x.parts sj (f a) HM.o.1 HM.o.2.1 HM.o.2.2 N
         rw[r] at l n;go_enter func315,ntmps315;go_wp2_with fail
         refine l.mono ?_;rintro e a ⟨rfl,d,b⟩;have i:=G a d b;go_wp2_with fail
         refine(HB a i.1 i.2.1).mono ?_;intro e w2 B;have HK:=BG.took (w0:=w) n.o (S:=S) (So:=So) (fun k e=>e.imp (fun e=>e.1) (fun e=>e.1)) (fun k e=>A e.1) i.2.2 B;obtain⟨v,hv⟩:∃v,e=Y v:=by cases B with
          | ok j h=>exact⟨_,j⟩
          | fail k hk W j h=>exact⟨_,j⟩
         subst hv;go_wp2;go_ret;exact HK
       . have ttx:((⟨(Ln.text s.ln c).toArray⟩:ay).toList==[])=F:=by rw[aR,Lib.toList_data];exact r
         have HB:∀a,jR a (fun k=>(S k∧k<w.heap.size)∨w.heap.size<=k∧k<a.heap.size) g m { s with ln:=Ln.next s.ln c }->mK a (fun k=>So k∧k<w.heap.size) gt t->Calls prog 341 #[Q (M ⟨g,2,U⟩),V ⟨(Ln.text s.ln c).toArray⟩] a fun e w'=>BG a (fun k=>(S k∧k<w.heap.size)∨w.heap.size<=k∧k<a.heap.size) (fun k=>So k∧k<w.heap.size) g gt m { s with ln:=Ln.next s.ln c } (Ln.text s.ln c) t e w':=fun a u sj =>
          Fp a _ _ g gt m { s with ln:=Ln.next s.ln c } (Ln.text s.ln c) t u y.o x.many sj (f a) r hsh
         generalize (⟨(Ln.text s.ln c).toArray⟩:ay)=tx at *;go_enter func315,ntmps315;go_wp2_with fail
         refine l.mono ?_;rintro e a ⟨rfl,d,b⟩;have i:=G a d b;go_wp2_with fail
         refine(HB a i.1 i.2.1).mono ?_;intro e w2 B;have HK:=BG.took (w0:=w) n.o (S:=S) (So:=So) (fun k e=>e.imp (fun e=>e.1) (fun e=>e.1)) (fun k e=>A e.1) i.2.2 B;obtain⟨v,hv⟩:∃v,e=Y v:=by cases B with
          | ok j h=>exact⟨_,j⟩
          | fail k hk W j h=>exact⟨_,j⟩
         subst hv;go_wp2;go_ret;exact HK
   . have tc:(((Ln.next s.ln c).code:Int) != 0)=true:=by rw[cK];omega
     rw[if_pos q] at n;generalize z:(Ln.next s.ln c).code=cd at *;generalize (⟨(Ln.text s.ln c).toArray⟩:ay)=tx at *;generalize Ln.ends s.ln c=en at *;go_enter func315,ntmps315;go_wp2_with fail
     refine l.mono ?_;rintro e a ⟨rfl,d,b⟩;have i:=G a d b;have HR1:=xV.o.turns b (fun e=>e.1.2 rfl);go_wp2;go_ret;exact .fail cd q n.o rfl (.mk _ _ _ _ _ _ _ _ _ _ HR1 i.2.1 (fun e=>hgo e.1) (fun k e=>A e.1) i.2.2)
structure TB (m:av)(s:Fm.St):Prop where
 good:Fm.Good m s
 two:m.take 2=[13,10]
 long:5<=m.length
 short:m.length<=100
 ahead:s.ahead<=2
theorem TB.fold {m:av}{s:Fm.St}(h:TB m s)(l:av):TB m (Fm.fold m s l):=⟨h.good.fold (by have:=h.long;omega) l,h.two,h.long,h.short,Fm.Dh m l s h.ahead⟩
theorem Xn (w:X)(S So:Nat->Prop)(g gt:Nat)(m:av)(s:Fm.St)(c:UInt8)(t:Fm.Td)(h:jR w S g m s)(n:Fm.live s)(a:TB m s)(p:mK w So gt t)(hd:∀k,S k->¬So k)(b:t.es.length<=80000)(q:t.bs.length<=80000):
 Calls prog 278 #[Q (M ⟨g,0,U⟩),Q (M ⟨gt,0,U⟩),I .u8 c.toNat] w fun e w'=>Zy w S So g gt m s c t e w':=by
 have N:=h.cells.1;have z:3<=m.length:=by have:=a.long;omega
 have x:m.length<=1000:=by have:=a.short;omega
 by_cases i:s.place=0
 . have j:=H9 (Jb w S So g gt m s c t h n i a.good p hd x a.ahead b q);have B:((s.place:Int)==0)=true:=by rw[i];rfl
   go_enter func278,ntmps278;go_wp2_with fail
   refine j.o.mono ?_;rintro e y ⟨rfl,d⟩;go_wp2;go_ret;exact .ok rfl d
 . have B:((s.place:Int)==0)=F:=by rw[aR];omega
   by_cases l:s.place=5
   . have j:=H9 (Jc w S So g gt m s c t h n l a.good p hd a.two z x b);have C:((s.place:Int)==5)=true:=by rw[l];rfl
     go_enter func278,ntmps278;go_wp2_with fail
     refine j.o.mono ?_;intro e y d;have r:=H9 d;obtain⟨v,u⟩:∃v,e=Y v:=by cases d with
      | ok f h=>exact⟨_,f⟩
      | fail k D G f h=>exact⟨_,f⟩
     subst u;go_wp2;go_ret;exact r.o
   . have C:((s.place:Int)==5)=F:=by rw[aR];omega
     have H:=a.good.place;have L:=n.2;have j:=yu w S So g gt m s c t h n (by omega) p hd b;go_enter func278,ntmps278;go_wp2_with fail
     refine j.mono ?_;intro e y d;have r:=H9 d;obtain⟨v,u⟩:∃v,e=Y v:=by cases d with
      | ok f h=>exact⟨_,f⟩
      | fail k D G f h=>exact⟨_,f⟩
     subst u;go_wp2;go_ret;exact r.o
structure BH (w:X)(S:Nat->Prop)(g:Nat)(m:av)(s:Fm.St)(l:av)(k:Nat)(wr:X):Prop where
 two:∃S' So',jR wr S' g m (Fm.fold m s (l.take k))∧mK wr So' w.heap.size (Fm.tells Fm.EX (Fm.outs m s (l.take k)))∧(∀i,S' i->¬So' i)∧(∀i,S' i->S i∨w.heap.size<=i)∧(∀i,So' i->w.heap.size<=i)
 turns:Turns S w wr
inductive Jd (w:X)(S:Nat->Prop)(g:Nat)(m:av)(s:Fm.St)(l:av)(e:Ending)(w':X):Prop
 | mk (ao:ak) (cap n:Nat) (S' So':Nat->Prop) (he:e=Y (Z ao n cap)) (hn:n=(lT (Fm.outs m s l)).length) (hR:jR w' S' g m (Fm.fold m s l)) (hO:oC w' So' 98 ao cap (lT (Fm.outs m s l))) (hd:∀i,S' i->¬So' i) (hS:∀i,S' i->S i∨w.heap.size<=i) (hSo:∀i,So' i->w.heap.size<=i) (hT:Turns S w w')
theorem BH.step {w wr w':X}{S S' a:Nat->Prop}{g:Nat}{m:av}{s:Fm.St}{l:av}{k:Nat}(o:k<l.length)(f:∀i,S' i->S i∨w.heap.size<=i)(b:∀i,a i->w.heap.size<=i)(j:Turns S w wr)
 (h:yt wr S' a g w.heap.size m (Fm.next m (Fm.fold m s (l.take k)) l[k]).1 (Fm.tells (Fm.tells Fm.EX (Fm.outs m s (l.take k))) (Fm.next m (Fm.fold m s (l.take k)) l[k]).2) w'):BH w S g m s l (k+1) w':=by
 obtain⟨p,c,q,r,t,d,u,v⟩:=h;have n:=bM o;have x:=j.size;refine⟨⟨p,c,by rw[n,Fm.zW];exact q,by rw[n,Fm.zX,Fm.yN];exact r,t,fun i e=>?_,fun i e=>?_⟩,j.trans v (fun i e y=>?_)⟩
 . rcases d i e with e | e
   . exact f i e
   . exact R (by omega)
 . rcases u i e with e | e
   . exact b i e
   . omega
 . rcases e with e | e
   . rcases f i e with e | e
     . exact e
     . omega
   . have:=b i e;omega
theorem TD {w c l:X}{S So d:Nat->Prop}{g gt:Nat}{m:av}{t:Fm.Td}{k:Nat}(s:k≠0)(o:S g)
 (a:¬d g) (p:∀i,d i->So i∨w.heap.size<=i) (b:Turns (fun i=>S i∨So i) w c)
 {f:X} (u:jg f g (Q U) 0 (Q U) U 0 0 0 0 (k:Int)) (q:Turns (fun i=>i=g) c f) (y:g<w.heap.size) (n:mK l (gB (fun i=>d i∧i<c.heap.size) f) gt (Fm.tell t (Fm.Vt k))) (r:Turns (fun i=>d i∧i<c.heap.size) f l) :
 yt w S So g gt m (Fm.fails k).1 (Fm.tells t (Fm.fails k).2) l:=by
 have v:=b.size;have x:=q.size;refine .mk (fun i=>i=g) _ (.dead (Fm.Kj s) rfl (u.turns r (fun e=>a e.1))) n (fun i e j=>?_) (fun i e=>by subst e;exact A o) (fun i e=>?_) ((b.trans q (fun i e _=>by subst e;exact A o)).trans r (fun i e z=>?_))
 . subst e;rcases j with j | j
   . exact a j.1
   . omega
 . rcases e with e | e
   . exact p i e.1
   . exact R (by omega)
 . rcases p i e.1 with e | e
   . exact R e
   . omega
theorem BH.done {w wr w':X}{S S' a:Nat->Prop}{g:Nat}{m:av}{s:Fm.St}{l:av}{k:Nat}{ao bo:ak}{cap p:Nat}(q:jR wr S' g m (Fm.fold m s (l.take k)))(hd:∀i,S' i->¬a i)(r:∀i,S' i->S i∨w.heap.size<=i)(c:∀i,a i->w.heap.size<=i)(f:Turns S w wr)(j:Fm.outs m s l=Fm.outs m s (l.take k))(t:Fm.fold m s l=Fm.fold m s (l.take k))
 (u:jF w' (gB (fun i=>a i∧i<wr.heap.size) wr) w.heap.size ao cap bo p ⟨Fm.flush (Fm.tells Fm.EX (Fm.outs m s (l.take k))),[]⟩) (n:Turns (fun i=>a i∧i<wr.heap.size) wr w'):Jd w S g m s l (Y (Z ao (Fm.flush (Fm.tells Fm.EX (Fm.outs m s (l.take k)))).length cap)) w':=by
 have d:=(Fm.AU _ (Fm.xQ m (l.take k) s)).1;have v:=f.size;refine .mk ao cap _ (fun i=>S' i∧i<wr.heap.size) (fun i=>gB (fun i=>a i∧i<wr.heap.size) wr i) rfl (by rw[d,j]) (by rw[t];exact(q.mono (fun i o e=>⟨e,o⟩)).turns n (fun i e b=>hd i e.1 b.1)) (by rw[j,<-d];exact u.all.mono (fun i _ e=>e.1.1)) (fun i e b=>?_) (fun i e=>r i e.1) (fun i e=>?_) (f.trans n (fun i e o=>by have:=c i e.1;omega))
 . rcases b with b | b
   . exact hd i e.1 b.1
   . have:=e.2;omega
 . rcases e with e | e
   . exact c i e.1
   . omega
theorem Je (w:X)(S:Nat->Prop)(g:Nat)(m:av)(s:Fm.St)(l:av)(bo:ak)(fU n:Nat)(h:jR w S g m s)(hG:TB m s)(hB:gN w bo fU l)(sK:l≠[]->∀a,bo=M a->¬S a.block)(hn:l.length=n)(hl:n<=20000):
 Calls prog 242 #[Q (M ⟨g,0,U⟩),Z bo n fU] w fun e w'=>Jd w S g m s l e w':=by
 subst hn;have hlt:=h.lt;have L:Below w.heap.size w (w.alloc (K #[Z U 0 0,Z U 0 0] 315)):=(eY _ _).alloc (aM _) _;have abX:BH w S g m s l 0 (w.alloc (K #[Z U 0 0,Z U 0 0] 315)):=⟨⟨fun k=>S k∧k<w.heap.size,fun k=>w.heap.size<=k,(h.mono (fun k hk e=>⟨e,hk⟩)).stay L,⟨_,_,_,_,jF.made w⟩,fun i e e2=>by have:=e.2;omega,fun i e=>A e.1,fun i e=>e⟩,Turns.of_below L⟩;have HB:=hB;have N:=H9 hG;have ZE:=H9 sK
 have Zx:=h.me;go_enter func242,ntmps242;go_wp2;go_loopw [11] (fun vi wr=>∃k:Nat,k<=l.length∧vi=I J k∧BH w S g m s l k wr) (fun vi _=>l.length-(intOf vi).toNat)
 case atStart=>exact⟨0,aA _,rfl,abX⟩
 case round =>
  obtain⟨k,hk,rfl,T⟩:=hrel;obtain⟨S',f,j,Cu,y,z,OI⟩:=T.two;have B:=T.turns;have htk:(l.take k).length<=20000:=by rw[bW];omega
  have mO:=Fm.Rx (by have:=N.o.long;omega) N.o.good (l.take k);have hh:=N.o.good.held;have hsh:=N.o.short;have v:mK wr (fun i=>f i∧i<wr.heap.size) w.heap.size (Fm.tells Fm.EX (Fm.outs m s (l.take k))):=Cu.mono (fun i hi e=>⟨e,hi⟩);have ZF:=GR wr _ w.heap.size _ v (by omega);have QG:Hid (∀(w':X) (ao bo:ak) (C bc:Nat),Fm.outs m s l=Fm.outs m s (l.take k)->Fm.fold m s l=Fm.fold m s (l.take k)->jF w' (gB (fun i=>f i∧i<wr.heap.size) wr) w.heap.size ao C bo bc ⟨Fm.flush (Fm.tells Fm.EX (Fm.outs m s (l.take k))),[]⟩->Turns (fun i=>f i∧i<wr.heap.size) wr w'->Jd w S g m s l (Y (Z ao (Fm.flush (Fm.tells Fm.EX (Fm.outs m s (l.take k)))).length C)) w'):=fun w' ao bo C bc ho hf hR x=>BH.done j y z OI B ho hf hR x;by_cases q:k<l.length
  . obtain⟨bb,oo,rfl,_⟩:=HB.lit (by omega);have hne:l≠[]:=by intro e;subst e;simp at q
    obtain⟨b2,o2,D,W⟩:=(HB.turns B (fun a e=>ZE.o hne a e)).lit (by omega);injection D with D;injection D with hb2 ho2;subst hb2;subst ho2;have ck:=W k q;have hlt':(k:Int)<l.length:=by omega
    have hcap:=HB.1;obtain⟨c4,c5,c6,fz⟩:=j.cells;by_cases p:Fm.live (Fm.fold m s (l.take k))
    . have hG':=N.o.fold (l.take k);have qU:=Xn wr S' f g w.heap.size m _ l[k] _ j p hG' Cu y (by omega) (by omega);have Lx:∀w',yt wr S' f g w.heap.size m (Fm.next m (Fm.fold m s (l.take k)) l[k]).1 (Fm.tells (Fm.tells Fm.EX (Fm.outs m s (l.take k))) (Fm.next m (Fm.fold m s (l.take k)) l[k]).2) w'->BH w S g m s l (k+1) w':=fun w' hw=>BH.step q z OI B hw;have t0:(((Fm.fold m s (l.take k)).code:Int) != 0)=F:=by rw[p.1];rfl
      have t6:(((Fm.fold m s (l.take k)).place:Int)==6)=F:=by rw[aR];have:=p.2;omega
      have agH:=j.me;have agI:=H9 j.lt
      have hes:(Fm.tells Fm.EX (Fm.outs m s (l.take k))).es.length<=80000:=by omega
      generalize Fm.tells Fm.EX (Fm.outs m s (l.take k))=td at *;generalize Fm.fold m s (l.take k)=G at *;generalize l[k]=cb at *;clear j Cu y z OI mO v W p T ZF QG hG';go_wp2_with fail
      refine qU.mono ?_;intro e w1 hTk;cases hTk with
      | ok he hW =>
        subst he;have HW:=Lx w1 hW;go_wp2;go_roundw
        case rel=>exact⟨k+1,by omega,by go_num,HW⟩
        case measure=>simp[intOf];omega
      | fail kk hkk hN he T =>
        subst he;have tk:((kk:Int) != 0)=true:=by rw[cK];omega
        obtain⟨Lu,sk,ln,ah,pl,pt,cd,fo,nf,fZ,c,sj,hd1,Ao,hT1⟩:=T;have q0:=c.c0;have q1:=c.c1;have q2:=c.c2;have q3:=c.c3;have q4:=c.c4;have q5:=c.c5;have q6:=c.c6
        have f0:=c.fz 0;have f1:=c.fz 1;have f2:=c.fz 2;have f3:=c.fz 3;have f4:=c.fz 4;have f5:=c.fz 5;have f6:=c.fz 6
        obtain⟨Yu,Eb⟩:=c.anew 0 (kk:Int);have hO7:=(sj.mono (S':=fun i=>Lu i∧i<w1.heap.size) (fun i hi e=>⟨e,hi⟩)).turns Eb (fun i e e2=>by subst e2;exact hd1 e.1);have Zv:=wZ _ _ w.heap.size td 4 ⟨#[]⟩ ⟨#[]⟩ ⟨#[]⟩ (kk:Int) hO7 (by decide) (by have:=hes;omega);have Qx:=Yu;have OE:=H9 Eb;have HK:Hid (kk≠0∧¬Lu g∧(∀i,Lu i->f i∨wr.heap.size<=i)):=⟨hkk,hd1,Ao⟩;have HT1:=H9 hT1;have HN:=H9 hN
        go_wp2_with fail
        refine Zv.mono ?_;rintro e H ⟨rfl,v,x⟩;have hW:=TD (m:=m) HK.o.1 agH HK.o.2.1 HK.o.2.2 HT1.o Qx OE.o agI.o v x;have HW:=Lx H (by rw[HN.o];exact hW);go_wp2;go_roundw
        case rel=>exact⟨k+1,by omega,by go_num,HW⟩
        case measure=>simp[intOf];omega
    . have hdr:=Fm.sF (m:=m) (l.drop k) p;have d:Fm.outs m s l=Fm.outs m s (l.take k)∧Fm.fold m s l=Fm.fold m s (l.take k):=by
       constructor
       . conv=>lhs;rw[<-bV k l,Fm.oO,hdr.1,bU]
       . conv=>lhs;rw[<-bV k l,Fm.lQ,hdr.2]
      generalize Fm.flush (Fm.tells Fm.EX (Fm.outs m s (l.take k)))=fl at *;generalize hfo:Fm.fold m s (l.take k)=G at *;generalize l[k]=cb at *;by_cases hc0:G.code=0
      . have t0:((G.code:Int) != 0)=F:=by rw[hc0];rfl
        have h6:G.place=6:=by
         rcases Nat.decEq G.place 6 with e | e
         . exact absurd ⟨hc0,e⟩ p
         . exact e
        have t6:((G.place:Int)==6)=true:=by rw[h6];rfl
        go_wp2_with fail
        refine ZF.mono ?_;rintro e H ⟨jZ,b,Ab,r,rfl,t,x⟩;have u:=QG.o H jZ Ab b r d.1 d.2 t x;go_wp2;go_ret;exact u
      . have t0:((G.code:Int) != 0)=true:=by rw[cK];omega
        go_wp2_with fail
        refine ZF.mono ?_;rintro e H ⟨jZ,b,Ab,r,rfl,t,x⟩;have u:=QG.o H jZ Ab b r d.1 d.2 t x;go_wp2;go_ret;exact u
  . obtain rfl:k=l.length:=by omega
    have d:Hid (Fm.outs m s l=Fm.outs m s (l.take l.length)∧Fm.fold m s l=Fm.fold m s (l.take l.length)):=by
     unfold Hid;rw[bN];exact⟨rfl,rfl⟩
    generalize Fm.flush (Fm.tells Fm.EX (Fm.outs m s (l.take l.length)))=fl at *;go_wp2_with fail
    refine ZF.mono ?_;rintro e H ⟨jZ,b,Ab,r,rfl,t,x⟩;have u:=QG.o H jZ Ab b r d.o.1 d.o.2 t x;go_wp2;go_ret;exact u
inductive ZG (w:X)(l:av)(e:Ending)(w':X):Prop
 | no (h:Fm.kV l=F) (he:e=Y (.tuple #[Q U,I J 5])) (hb:Below w.heap.size w w')
 | yes (h:Fm.kV l=true) (g:Nat) (he:e=Y (.tuple #[Q (M ⟨g,0,U⟩),I J 0])) (hF:jR w' (fun k=>w.heap.size<=k) g (Fm.mark l) Fm.start) (hb:Below w.heap.size w w')
theorem LA (s:ay)(w:X):
 Calls prog 241 #[V s] w fun e w'=>ZG w s.data.toList e w':=by
 have B:=Xp s w;have hl:=Ch.iK s;cases m:Fm.kV s.data.toList with
 | false =>
   rw[m] at B;go_enter func241,ntmps241;go_wp2_with fail
   refine B.mono ?_;rintro e w1 ⟨rfl,i⟩;go_wp2;go_ret2;exact .no m rfl i
 | true =>
   rw[m] at B;obtain⟨D,n⟩:=zJ m;rw[hl] at n;obtain⟨G,H,L⟩:=Fm.Di s.data.toList D (by rw[hl];exact n);have hx:((⟨#[13,10,45,45]⟩:ay)++s).data.toList=Fm.mark s.data.toList:=by rw[Ch.data_append];rfl
   have q:=Ch.size_of_list hx;go_enter func241,ntmps241;go_wp2_with fail
   refine B.mono ?_;rintro e w1 ⟨rfl,i⟩;obtain⟨N,C,uN,T,r⟩:=Iw (P:=prog) w1 ((⟨#[13,10,45,45]⟩:ay)++s) 9 31 5 (by rw[q];unfold maxLen;omega) underlying9 underlying31 underlying5;rw[hx] at r;rw[q] at uN;have WT:=Xo (Fm.mark s.data.toList) _ N C r.tQ (by omega);have t:=then_ i T;have j:(Fm.mark s.data.toList).take 2=[13,10]∧5<=(Fm.mark s.data.toList).length∧(Fm.mark s.data.toList).length<=74:=⟨G,H,L⟩;have hst:(s.size:Int)<=70:=by omega
   generalize W:Fm.mark s.data.toList=mk at *;go_wp2_with fail
   refine WT.mono ?_;rintro e f ⟨g,p,rfl,hSk,hg1,hg2,hg3,u⟩;have d:=hSk;have HG:Hid (C.heap.size<=g∧C.heap.size<=p.gb∧∀a,p.mo=M a->C.heap.size<=a.block):=⟨hg1,hg2,hg3⟩;have HB3:=H9 (then_ t u)
   have yX:=u.size;go_wp2_with fail
   refine(ug f).mono ?_;rintro e b ⟨rfl,hL,l⟩;have jc:Below b.heap.size b (b.alloc (K #[Q (M ⟨g,0,U⟩),I J 0,Q (M ⟨f.heap.size,0,U⟩),Z U 0 0,I J 0,I J 0,I J 0] 313)):=(eY _ _).alloc (aM _) _;have c:jg (b.alloc (K #[Q (M ⟨g,0,U⟩),I J 0,Q (M ⟨f.heap.size,0,U⟩),Z U 0 0,I J 0,I J 0,I J 0] 313)) b.heap.size (Q (M ⟨g,0,U⟩)) 0 (Q (M ⟨f.heap.size,0,U⟩)) U 0 0 0 0 0:=⟨eX b _⟩;have hz2:=t.size;have hz3:=yX;have hz4:=l.size;have akx:=d.lt;have aky:=d.2.2.lt;have v:rY (b.alloc (K #[Q (M ⟨g,0,U⟩),I J 0,Q (M ⟨f.heap.size,0,U⟩),Z U 0 0,I J 0,I J 0,I J 0] 313)) (fun k=>w.heap.size<=k∧k≠b.heap.size) mk ⟨0,0,0,Ln.start,[],0,0⟩ g f.heap.size p U 0 (fun k=>f.heap.size<=k):=by
    refine⟨(d.stay l).stay jc,⟨⟨by have:=HG.o.1;omega,by omega⟩,⟨by have:=HG.o.2.1;omega,by omega⟩,fun a e=>⟨by have:=HG.o.2.2 a e;omega,by have:=(d.2.1.block a e).2;omega⟩⟩,⟨by omega,by omega,fun a e=>by have:=(d.2.1.block a e).2;omega⟩,?_,gH.nil _ _ _ _,fun a e=>(by cases e)⟩;have:=hL.mono (S':=fun k=>(w.heap.size<=k∧k≠b.heap.size)∧f.heap.size<=k) (fun k hk e=>⟨⟨by omega,by omega⟩,e⟩);exact this.turns (Turns.of_below (S:=fun _=>False) jc) (fun _ _ e=>e)
   have agK:mq (b.alloc (K #[Q (M ⟨g,0,U⟩),I J 0,Q (M ⟨f.heap.size,0,U⟩),Z U 0 0,I J 0,I J 0,I J 0] 313)) g mk 0 p:=v.sk;have N8:=xG _ b.heap.size g mk p _ c.c0 c.c1 (c.fz 1) (by omega) agK j.1 (by have:=j.2.1;omega) (by have:=j.2.2;omega);have xV:=c;have agL:=H9 v
   have EW:=then_ (then_ HB3.o l) jc;have Hz:w.heap.size<=b.heap.size:=by show _<=_;omega
   go_wp2_with fail
   refine N8.mono ?_;rintro e w6 ⟨w5,rfl,x,y,z⟩;obtain⟨r6,t6⟩:=jR.sought (s:=⟨0,0,0,Ln.start,[],0,0⟩) (a2:=2) (S:=fun k=>w.heap.size<=k) ⟨rfl,by decide⟩ Hz xV agL.o y z;have e6:w5.setCell ⟨b.heap.size,1,U⟩ (I J ((2:Nat):Int))=w6:=x.symm;rw[e6] at r6 t6;have xA:=EW.trans (t6.below (fun k e=>e) EW.size);clear  t6 e6 x y z ;go_wp2;go_ret2;refine .yes m b.heap.size rfl ?_ xA;rw[W];exact r6
theorem ji.ab1 (W:X)(a:Array Value)(n t:Nat)(b:Nat×Nat){k:Nat}(c:W.heap.size=k):ji (W.alloc (K a t b)) (M ⟨k,0,U⟩) n n a.toList:=by
 subst c;exact ji.made W a n t b
def aaD (w:X)(D:Nat->Prop)(ao:ak)(cap:Nat)(es:List iH):Prop :=
 es.length<=cap∧(0<es.length->∃b o,ao=M ⟨b,o,U⟩∧∀j (hj:j<es.length),∃s,adk w b (o+j*12) es[j] s∧jI w D s.bo s.fU es[j].bytes∧jI w D s.po s.jh es[j].gT)
theorem mR.aee {w:X}{S:Nat->Prop}{k:Nat}{ao:ak}{cap:Nat}{es:List iH}(h:mR w S k ao cap es):aaD w S ao cap es:=by
 obtain⟨f,rfl,l,_,m⟩:=h;have g:=l.qE;refine⟨g.1,fun n=>?_⟩;obtain⟨b,o,rfl,p⟩:=g.lit (by rw[nQ];rw[aF] at n;omega);refine⟨b,o,rfl,fun j q=>?_⟩;have c:j<f.length:=by simpa using q
 refine⟨f[j].2,?_⟩;rw[aG];have a:=m _ (aC c);refine⟨⟨fun i u d=>?_,a.fields.is,a.bytes.is,a.gT.is⟩,a.bytes.mono (fun _ _ e=>e.1),a.gT.mono (fun _ _ e=>e.1)⟩;have r:i<12:=(aQ.1 d).1;rw[<-sJ _ j c i r] at d;have:=p _ _ d;rw[bJ];exact this
theorem OJ (w:X)(D:Nat->Prop)(ao:ak)(cap n:Nat)(es:List iH)(hE:aaD w D ao cap es)(hn:es.length=n)(hl:n<=100000)(hL:Fm.yB es):
 Calls prog 244 #[Z ao n cap] w fun e w'=>∃gJ a m,e=Y (Z gJ m a)∧pI w D (Fm.pR es) gJ a m w':=by
 subst hn;have HE:=hE;have HL:=H9 hL
 obtain⟨i0,hi0,hz0,hz1,hz2⟩:=info_parts SH;have Hi:=hi0;have kY:=H9 hz0;have kT:=H9 hz1;have kZ:=H9 hz2
 go_enter func244,ntmps244;go_wp2;go_loopw [3,8] (fun vo vi wr=>∃(i m:Nat) (gJ:ak) (a:Nat),i<=es.length∧vi=I J i∧vo=Z gJ m a∧pI w D (Fm.pR (es.take i)) gJ a m wr) (fun _ vi _=>es.length-(intOf vi).toNat)
 case atStart=>exact⟨0,0,U,0,aA _,rfl,rfl,pI.start w D⟩
 case round =>
  obtain⟨i,m,gJ,a,hi,rfl,rfl,hP⟩:=hrel;have HP:=H9 hP;have hml:m<=100000:=by have h1:=hP.len;have y:=Fm.A8 (es.take i);rw[bW] at y;omega
  by_cases B:i<es.length
  . have hlt':(i:Int)<es.length:=by omega
    obtain⟨b,o,rfl,hEs⟩:=HE.2 (by omega);obtain⟨s,hE,hD1,hD2⟩:=hEs i B;have hcap:=HE.1;have d:=fun y=>Fm.Gd _ _ rfl (HL.o.at_ B y);have H:Hid (Fm.pR (es.take (i+1))=Fm.laid (Fm.pR (es.take i)) es[i]):=by
     unfold Hid;rw[bM B,Fm.Gc]
    generalize es[i]=e at *;have c:∀j u,(e.cells s)[j]? = M u->wr.cell? ⟨b,o+i*12+j,U⟩=M u:=fun j u L=>(HP.o.below.cell (fH w _ (hE.at_ j u L))).trans (hE.at_ j u L);have c0:wr.cell? ⟨b,o+i*12,U⟩=M (I J e.kind):=c 0 _ rfl;have c1:wr.cell? ⟨b,o+i*12+1,U⟩=M (V e.method):=c 1 _ rfl;have c2:wr.cell? ⟨b,o+i*12+2,U⟩=M (V e.target):=c 2 _ rfl;have c3:wr.cell? ⟨b,o+i*12+3,U⟩=M (I J e.minor):=c 3 _ rfl;have c4:wr.cell? ⟨b,o+i*12+4,U⟩=M (Z s.fo e.fields.length s.fZ):=c 4 _ rfl;have c5:wr.cell? ⟨b,o+i*12+5,U⟩=M (I J e.length):=c 5 _ rfl;have c6:wr.cell? ⟨b,o+i*12+6,U⟩=M (Z s.bo e.bytes.length s.fU):=c 6 _ rfl;have c7:wr.cell? ⟨b,o+i*12+7,U⟩=M (V e.kK):=c 7 _ rfl;have c8:wr.cell? ⟨b,o+i*12+8,U⟩=M (V e.ku):=c 8 _ rfl;have c9:wr.cell? ⟨b,o+i*12+9,U⟩=M (V e.ptype):=c 9 _ rfl;have c10:wr.cell? ⟨b,o+i*12+10,U⟩=M (Z s.po e.gT.length s.jh):=c 10 _ rfl;have c11:wr.cell? ⟨b,o+i*12+11,U⟩=M (I J e.code):=c 11 _ rfl;have N:jI w D s.bo s.fU e.bytes∧jI w D s.po s.jh e.gT:=⟨hD1,hD2⟩;have jc:Below wr.heap.size wr (wr.alloc (K #[I J e.kind,V e.method,V e.target,I J e.minor,Z s.fo e.fields.length s.fZ,I J e.length,Z s.bo e.bytes.length s.fU,V e.kK,V e.ku,V e.ptype,Z s.po e.gT.length s.jh,I J e.code] 98)):=(eY _ _).alloc (aM _) _;have f:=HP.o.stay jc;generalize e.fields.length=nfl at *;obtain⟨nb,S⟩:∃nb,e.bytes.length=nb:=⟨_,rfl⟩;obtain⟨z,T⟩:∃z,e.gT.length=z:=⟨_,rfl⟩;rw[S] at c6 f;rw[T] at c10 f;have Zg:=S;have agM:=H9 T
    by_cases C:e.kind=5
    . have t5:(e.kind==5)=true:=aS.2 C;have l:Fm.laid (Fm.pR (es.take i)) e=Fm.pR (es.take i)++[⟨e.kK,e.ku,e.ptype,e.gT⟩]:=by unfold Fm.laid;rw[if_pos C]
      obtain⟨xs,hO,W⟩:=(f.stay ((eY _ _).alloc (aM _) (K #[V e.kK,V e.ku,V e.ptype,Z s.po z s.jh] 96))).push;have HO:=hO;have HPu:=H9 W;have r:=H9 (H.o.trans l)
      have uT:Hid (SI ⟨e.kK,e.ku,e.ptype,e.gT⟩ ⟨s.po,s.jh⟩=[V e.kK,V e.ku,V e.ptype,Z s.po z s.jh]):=by unfold Hid SI;rw[agM.o]
      have IQ:w.heap.size<=wr.heap.size:=HP.o.below.size;clear C l hO W d H;generalize e.kind=ek at *;go_wp2_with (at_builtin;refine gP rfl (.tmp 16) (.tmp 19) 221 rfl w.heap.size 96 i0 (.agg #[V ⟨#[]⟩,V ⟨#[]⟩,V ⟨#[]⟩,Z U 0 0]) 4 72 underlying221 Hi kY.o kT.o kZ.o rfl (by decide) rfl HO rfl (ji.ab1 _ _ 1 _ _ (by simp)) rfl (fun u L=>by simp at L;rcases L with rfl | rfl | rfl | rfl <;> rfl) (by omega) (by omega) (by rw[fG,fG];have:=IQ;omega) ?_;intro a3 c3 w3 hO3 hG3 jQ;have TF:=H9 (HPu.o a3 c3 w3 ⟨e.kK,e.ku,e.ptype,e.gT⟩ ⟨s.po,s.jh⟩ N.2 (by rw[uT.o];exact hO3) hG3);clear hO3 hG3 jQ)
      go_roundw
      case rel=>exact⟨i+1,m+1,a3,c3,by omega,by go_num,rfl,by rw[r.o];exact TF.o⟩
      case measure=>simp[intOf];omega
    . have t5:(e.kind==5)=F:=aR.2 C;by_cases y:e.kind=2
      . have t2:(e.kind==2)=true:=aS.2 y;have t:=d y;obtain⟨qs,p,G⟩:∃qs p,Fm.pR (es.take i)=qs++[p]:=by
         rcases bB (Fm.pR (es.take i)) with e0 | ⟨q,x,e0⟩
         . rw[e0] at t;simp at t
         . exact⟨q,x,by rw[e0,bD]⟩
        have l:Fm.laid (Fm.pR (es.take i)) e=qs++[{ p with bytes:=e.bytes }]:=by
         unfold Fm.laid;rw[if_neg C,if_pos y,G,List.dropLast_concat,dX];rfl
        have r:=H.o.trans l;rw[G] at f;obtain⟨k,rfl⟩:∃k,m=k+1:=⟨m-1,by have h1:=f.len;rw[aV] at h1;simp at h1;omega⟩;obtain⟨g,rfl,⟨v,cv⟩,fv,hc1,hby⟩:=f.bytes;have TF:=hby e.bytes s.bo s.fU nb N.1 Zg.symm;have m0:(0:Int)<=(k:Int):=by omega
        have m1:(k:Int)<(k:Int)+1:=by omega
        have m2:((k+1:Nat):Int)-1=(k:Int):=by omega
        clear C y l d H t G hby
        generalize e.kind=ek at *;go_wp2;go_roundw
        case rel=>exact⟨i+1,k+1,M ⟨g,0,U⟩,a,by omega,by go_num,rfl,by rw[r];exact TF⟩
        case measure=>simp[intOf];omega
      . have t2:(e.kind==2)=F:=aR.2 y;have l:Fm.laid (Fm.pR (es.take i)) e=Fm.pR (es.take i):=by unfold Fm.laid;rw[if_neg C,if_neg y]
        have r:=H.o.trans l;generalize e.kind=ek at *;go_wp2;go_roundw
        case rel=>exact⟨i+1,m,gJ,a,by omega,by go_num,rfl,by rw[r];exact f⟩
        case measure=>simp[intOf];omega
  . obtain rfl:i=es.length:=by omega
    go_wp2;go_ret;refine⟨gJ,a,m,rfl,?_⟩;have:=HP.o;rw[bN] at this;exact this
inductive ZH (w:X)(s l:av)(e:Ending)(w':X):Prop
 | no (c:Nat) (hc:c≠0) (h:Fm.kV s=F∧c=5∨Fm.kV s=true∧Fm.close (Fm.fold (Fm.mark s) Fm.start l)=c) (he:e=Y (.tuple #[Z U 0 0,I J (c:Int)])) (hb:Below w.heap.size w w')
 | yes (hm:Fm.kV s=true) (h:Fm.close (Fm.fold (Fm.mark s) Fm.start l)=0) (w1:X) (hz:w.heap.size<=w1.heap.size) (ao:ak) (cap n:Nat) (he:e=Y (.tuple #[Z ao n cap,I J 0])) (hP:pI w1 (fun k=>w.heap.size<=k) (Fm.pR (lT (Fm.outs (Fm.mark s) Fm.start l))) ao cap n w') (hb:Below w.heap.size w w')
theorem wG {s:av}(h:Fm.kV s=true):TB (Fm.mark s) Fm.start:=by
 obtain⟨d,e⟩:=zJ h;obtain⟨a,b,c⟩:=Fm.Di s d e;exact⟨Fm.Good.start (by omega),a,b,by omega,aM _⟩
theorem Xq (s:ay)(l:av)(bo:ak)(fU n:Nat)(w:X)(hB:gN w bo fU l)(hn:l.length=n)(hl:n<=20000):
 Calls prog 193 #[V s,Z bo n fU] w fun e w'=>ZH w s.data.toList l e w':=by
 have D:=hB;have G:=H9 hn
 go_enter func193,ntmps193;go_wp2_with fail
 refine(LA s w).mono ?_;intro e w1 v;cases v with
 | no t d f =>
   subst d;have c:=t;have j:=H9 f
   go_wp2;go_ret2;exact .no 5 (by decide) (A ⟨c,rfl⟩) rfl j.o
 | yes t g d v f =>
   subst d;have hz:=f.size;have c:=t;have j:=H9 f
   have sK:l≠[]->∀a,bo=M a->¬w.heap.size<=a.block:=fun x a ea=>by
    subst ea;have hp:=eu.2 x;have:=fH w _ (D.cell 0 hp);rw[add_block] at this;omega
   go_wp2_with fail
   refine(Je w1 _ g (Fm.mark s.data.toList) Fm.start l bo fU n v (wG t) (D.stay f) sK G.o hl).mono ?_;rintro e H ⟨ao,y,k,S',So',d,L,N,S,hd,hS,p,T⟩;subst d;have b:=j.o.trans (T.below (B:=w.heap.size) (fun k e=>e) j.o.size);have uT:=Tm H S' g _ _ N;have mO:=Fm.oV (by have:=(wG c).long;omega) l (wG c).good;have z:=tT (Fm.outs (Fm.mark s.data.toList) Fm.start l);have hk4:k<=40000:=by have:=G.o;omega
   have Yw:=OJ H (fun k=>w.heap.size<=k) ao y k _ (S.all.mono (fun i _ e=>dB j.o.size (p i e))).aee L.symm (by omega) (Fm.VG _ _);clear L N S hd hS p T mO z;generalize q:Fm.close (Fm.fold (Fm.mark s.data.toList) Fm.start l)=u at *;go_wp2_with fail
   refine uT.mono ?_;rintro e w3 ⟨rfl,hw⟩;subst hw;by_cases C:u=0
   . have tc:((u:Int) != 0)=F:=by rw[C];rfl
     go_wp2_with fail
     refine Yw.mono ?_;rintro e w4 ⟨gJ,r,m,rfl,W⟩;go_wp2;go_ret2;exact .yes c (q.trans C) w3 b.size gJ r m rfl W (then_ b W.below)
   . have tc:((u:Int) != 0)=true:=by rw[cK];omega
     go_wp2;go_ret2;exact .no u C (R ⟨c,q⟩) rfl b
structure og (S:Nat->Prop)(tO:Nat)(w:X)(g:Nat)(s:Sp.St)(w':X):Prop where
 at_:ny w' (gB S w) tO 92 5 g s
 turns:Turns S w w'
theorem og.from_ {S:Nat->Prop}{a g:Nat}{w b w':X}{s:Sp.St}(c:Below w.heap.size w b)(h:og S a b g s w'):og S a w g s w':=by
 have d:=c.size;refine⟨h.at_.mono (fun k _ e=>?_),(Turns.of_below c).trans h.turns (fun _ e _=>e)⟩;rcases e with e | e
 . exact A e
 . exact R (by omega)
theorem XV {s:Sp.St}{e:Jn.E}(h:e.kind=1):(Sr.iT s e).1=(Sp.create s e.n (Sr.ES e.text)).1:=by unfold Sr.iT;rw[if_pos h];rfl
theorem XW {s:Sp.St}{e:Jn.E}(h:e.kind=2):Sr.iT s e=Sp.append s e.id (Sr.lenOf s e.id) e.text:=by unfold Sr.iT;rw[if_neg (by omega),if_pos h]
theorem XY {s:Sp.St}{e:Jn.E}(h:e.kind=3):Sr.iT s e=Sp.declare s e.id e.n:=by unfold Sr.iT;rw[if_neg (by omega),if_neg (by omega),if_pos h]
theorem XZ {s:Sp.St}{e:Jn.E}(h:e.kind=4):Sr.iT s e=Sp.drop s e.id:=by unfold Sr.iT;rw[if_neg (by omega),if_neg (by omega),if_neg (by omega),if_pos h]
theorem X0 {s:Sp.St}{e:Jn.E}(h:e.kind=5):Sr.iT s e=Sp.begins s e.id:=by unfold Sr.iT;rw[if_neg (by omega),if_neg (by omega),if_neg (by omega),if_neg (by omega),if_pos h]
theorem X3 {s:Sp.St}{e:Jn.E}(h:e.kind=6):Sr.iT s e=Sp.ends s e.id:=by unfold Sr.iT;rw[if_neg (by omega),if_neg (by omega),if_neg (by omega),if_neg (by omega),if_neg (by omega)]
theorem X4 (s:Sp.St)(S:Nat->Prop)(g:Nat)(x:Jn.E)(N:ak)(G T:Nat)(w:X)(h:gL w S g s)(ok:Sp.Ok s)(hl:s.last<=1000000)(hT:gN w N T x.text)(H:x.text.length=G)(hN:G<=1000000)(hk:1<=x.kind∧x.kind<=6):
 Calls prog 156 #[Q (M ⟨g,0,U⟩),.agg #[I J x.kind,I J x.id,I J x.n,Z N G T]] w fun e w'=>e=Y (.tuple #[])∧og S 124 w g (Sr.iT s x).1 w':=by
 have B:=(eY _ w).alloc (aM _) (K #[I J x.kind,I J x.id,I J x.n,Z N G T] 226);have t:=h.stay B;have f:=hT.stay B;obtain⟨⟨D,x1,x2,x3⟩,_⟩:=uq (eX w (K #[I J x.kind,I J x.id,I J x.n,Z N G T] 226));obtain⟨W,L⟩:∃W,(w.alloc (K #[I J x.kind,I J x.id,I J x.n,Z N G T] 226))=W:=⟨_,rfl⟩;have hwl:w.heap.size<W.heap.size:=by rw[<-L];simp
 rw[L] at B t f D x1 x2 x3;have k:=f.str (P:=prog) 31 9 5 underlying31 underlying5 underlying9;rw[H] at k;have r:(Sr.ES x.text).size<=1000000:=by rw[Sr.JK];omega
 have HB:=H9 B;obtain a | a | a | a | a | a:x.kind=1∨x.kind=2∨x.kind=3∨x.kind=4∨x.kind=5∨x.kind=6:=by omega
 . have y:=H9 (Bz s S g x.n (Sr.ES x.text) W t ok hl r);have v:=H9 (XV (s:=s) a);rw[show(⟨x.text.toArray⟩:ay)=Sr.ES x.text from rfl] at k;rw[a] at D L ⊢;clear h ok hl hT H hk f t a B r;generalize Sp.create s x.n (Sr.ES x.text)=q at *;generalize Sr.ES x.text=m at *;go_enter func156,ntmps156;go_wp2_with fail
   refine y.o.mono ?_;intro e c b;have z:Hid (og S 124 w g (Sr.iT s x).1 c):=og.from_ HB.o (by rw[v.o];exact⟨b.at_,b.turns⟩);obtain⟨rfl,_,_⟩:=b;go_wp2;go_end0
   exact⟨rfl,z.o⟩
 . have v:=H9 (XW (s:=s) a);have HA:Hid (∀c,Below W.heap.size W c->Calls prog 213 #[Q (M ⟨g,0,U⟩),I J x.id,I J (Sr.lenOf s x.id),Z N G T] c (Did S 124 c g (Sp.append s x.id (Sr.lenOf s x.id) x.text))):=fun c d=>Bw s S g x.id _ N G T x.text c (t.stay d) ok (f.stay d) H hN;have uT:Hid (∀c,Below W.heap.size W c->c.cell? ⟨w.heap.size,1,U⟩=M (I J x.id)∧c.cell? ⟨w.heap.size,3,U⟩=M (Z N G T)):=fun c d=>⟨(d.cell (p:=⟨w.heap.size,1,U⟩) hwl).trans x1,(d.cell (p:=⟨w.heap.size,3,U⟩) hwl).trans x3⟩;cases hp:Sp.place s.l x.id with
   | none =>
     have HG:=H9 (GK s S g x.id W t ok hp);rw[Sr.MN hp] at HA v;rw[a] at D L ⊢;clear h ok hl hT H hk f t a B r hp k;generalize Sp.append s x.id _ x.text=q at *;go_enter func156,ntmps156;go_wp2_with fail
     refine HG.o.mono ?_;rintro e c ⟨rfl,d⟩;have C:=(eY _ c).alloc (aM _) (K #[I J 0,I J 0,V ⟨#[]⟩,Z U 0 0,I J 0] 92);have j:=then_ d C;have y:=H9 (HA.o _ j);obtain⟨y1,y3⟩:=uT.o _ j;have HB3:=H9 (then_ HB.o j);clear d C j HA uT D x1 x2 x3;go_wp2_with fail
     refine y.o.mono ?_;intro e w4 b;have z:Hid (og S 124 w g (Sr.iT s x).1 w4):=og.from_ HB3.o (by rw[v.o];exact⟨b.at_,b.turns⟩);obtain⟨rfl,_,_⟩:=b;go_wp2;go_end0
     exact⟨rfl,z.o⟩
   | some i =>
     have hi:=Sp.lg hp;have HG:=H9 (Al s S g x.id i W t ok hp hi);have hL:Sr.lenOf s x.id=s.l[i].bytes.length:=Sr.CS hp;rw[hL] at HA v;rw[a] at D L ⊢;clear h ok hl hT H hk f t a B r hp k hL;generalize s.l[i]=u at *;generalize Sp.append s x.id _ x.text=q at *;go_enter func156,ntmps156;go_wp2_with fail
     refine HG.o.mono ?_;rintro e c ⟨bo,bc,rfl,_,d⟩;have C:=(eY _ c).alloc (aM _) (K #[I J u.id,I J u.size,V u.note,Z bo u.bytes.length bc,I J u.sent] 92);have j:=then_ d C;have y:=H9 (HA.o _ j);obtain⟨y1,y3⟩:=uT.o _ j;have HB3:=H9 (then_ HB.o j);clear d C j HA uT D x1 x2 x3;go_wp2_with fail
     refine y.o.mono ?_;intro e w4 b;have z:Hid (og S 124 w g (Sr.iT s x).1 w4):=og.from_ HB3.o (by rw[v.o];exact⟨b.at_,b.turns⟩);obtain⟨rfl,_,_⟩:=b;go_wp2;go_end0
     exact⟨rfl,z.o⟩
 . have y:=H9 (zD s S g x.id x.n W t ok);have v:=H9 (XY (s:=s) a);rw[a] at D L ⊢;clear h ok hl hT H hk f t a B r k;generalize Sp.declare s x.id x.n=q at *;go_enter func156,ntmps156;go_wp2_with fail
   refine y.o.mono ?_;intro e c b;have z:Hid (og S 124 w g (Sr.iT s x).1 c):=og.from_ HB.o (by rw[v.o];exact⟨b.at_,b.turns⟩);obtain⟨rfl,_,_⟩:=b;go_wp2;go_end0
   exact⟨rfl,z.o⟩
 . have y:=H9 (GH s S g x.id W t ok);have v:=H9 (XZ (s:=s) a);rw[a] at D L ⊢;clear h ok hl hT H hk f t a B r k;generalize Sp.drop s x.id=q at *;go_enter func156,ntmps156;go_wp2_with fail
   refine y.o.mono ?_;intro e c b;have z:Hid (og S 124 w g (Sr.iT s x).1 c):=og.from_ HB.o (by rw[v.o];exact⟨b.at_,b.turns⟩);obtain⟨rfl,_,_⟩:=b;go_wp2;go_end0
   exact⟨rfl,z.o⟩
 . have y:=H9 (Ei s S g x.id W t ok);have v:=H9 (X0 (s:=s) a);rw[a] at D L ⊢;clear h ok hl hT H hk f t a B r k;generalize Sp.begins s x.id=q at *;go_enter func156,ntmps156;go_wp2_with fail
   refine y.o.mono ?_;intro e c b;have z:Hid (og S 124 w g (Sr.iT s x).1 c):=og.from_ HB.o (by rw[v.o];exact⟨b.at_,b.turns⟩);obtain⟨rfl,_,_⟩:=b;go_wp2;go_end0
   exact⟨rfl,z.o⟩
 . have y:=H9 (Lc s S g x.id W t ok);have v:=H9 (X3 (s:=s) a);rw[a] at D L ⊢;clear h ok hl hT H hk f t a B r k;generalize Sp.ends s x.id=q at *;go_enter func156,ntmps156;go_wp2_with fail
   refine y.o.mono ?_;intro e c b;have z:Hid (og S 124 w g (Sr.iT s x).1 c):=og.from_ HB.o (by rw[v.o];exact⟨b.at_,b.turns⟩);obtain⟨rfl,_,_⟩:=b;go_wp2;go_end0
   exact⟨rfl,z.o⟩
theorem Z8 {w:X}{ao:ak}{cap:Nat}{l:List Jn.E}(h:Bg w ao cap l):l.length<=cap:=by
 obtain⟨b,_,a,_⟩:=h;exact a.1
theorem acv (e:Jn.E):e.text.length<=(Jn.enc e).length:=by simp[Jn.enc,Jn.inn];omega
theorem X5 {b:av}{e:Jn.E}(h:e∈(Jn.dec b).1):e.text.length<=b.length:=by
 obtain⟨_,d,a,_⟩:=Jn.CR _ b (aM _);have c:(Jn.enc e).length<=(((Jn.dec b).1.map Jn.enc).flatten).length:=(List.sublist_flatten_of_mem (List.mem_map_of_mem h)).length_le;rw[a,bW] at c;have:=acv e;omega
theorem X6 {b:av}{e:Jn.E}(h:e∈(Jn.dec b).1):1<=e.kind∧e.kind<=6:=by
 obtain⟨a,_⟩:=Jn.CR _ b (aM _);exact((Jn.uX e).1 (a e h)).1
theorem Pv (l:List Jn.E)(ao:ak)(cap n:Nat)(w:X)(u:Bg w ao cap l)(T:l.length=n)(hN:n<=1000000)(z:∀e∈l,(1<=e.kind∧e.kind<=6)∧e.text.length<=1000000):
 Calls prog 107 #[Z ao n cap] w fun e w'=>∃g,e=Y (Q (M ⟨g,0,U⟩))∧gL w' (fun k=>w.heap.size<=k) g (Sr.jw Sp.new l)∧Below w.heap.size w w':=by
 subst T;have W:=H9 (Lh w);have HE:=H9 u;have B:=Z8 u;have HF:=H9 z;clear u z;go_enter func107,ntmps107;go_wp2_with fail
 refine W.o.mono ?_;rintro e w1 ⟨rfl,d,C⟩;have HS:=H9 d;have HB:=H9 C
 clear d C;go_wp2;go_loopw [9] (fun t wr=>∃k:Nat,k<=l.length∧t=I J k∧gL wr (fun k=>w.heap.size<=k) w.heap.size (Sr.jw Sp.new (l.take k))∧Below w.heap.size w wr) (fun t _=>l.length-(intOf t).toNat)
 case atStart=>exact⟨0,aA _,rfl,by rw[List.take_zero];exact HS.o,HB.o⟩
 case round =>
  obtain⟨k,hk,rfl,d,D⟩:=hrel;have a:=H9 d;have b:=H9 D
  clear d D;by_cases c:k<l.length
  . obtain⟨bb,oo,q,rfl,hc0,hc1,hc2,hc3,f⟩:=(HE.o.stay b.o).at_ k c;have G:(k:Int)<l.length:=by omega
    have v:=HF.o _ (aC c);have s:=(eY _ wr).alloc (aM _) (K #[I J l[k].kind,I J l[k].id,I J l[k].n,Z q.bo l[k].text.length q.fU] 226);have i:Sp.Ok (Sr.jw Sp.new (l.take k)):=Sr.xP _ Sp.Ok.new;have m:(Sr.jw Sp.new (l.take k)).last<=1000000:=by
     have:=Sr.tL (l.take k) Sp.new;rw[bW] at this;have h0:Sp.new.last=0:=rfl;omega
    have H:=H9 (X4 (Sr.jw Sp.new (l.take k)) (fun k=>w.heap.size<=k) w.heap.size l[k] q.bo l[k].text.length q.fU _ (a.o.stay s) i m (f.stay s) rfl v.2 v.1);rw[<-Sr.Hy Sp.new l k c] at H;have L:=H9 s;clear v s i m f a;generalize l[k]=p at *;go_wp2_with fail
    refine H.o.mono ?_;rintro e N ⟨rfl,x⟩;have r:=b.o.size;have y:=L.o.size;have S:Hid (gL N (fun k=>w.heap.size<=k) w.heap.size (Sr.jw Sp.new (l.take (k+1)))∧Below w.heap.size w N):=by
     refine⟨x.at_.mono (fun j _ e=>?_),(b.o.trans (L.o.mono r)).trans (x.turns.below (fun j e=>e) (by omega))⟩;rcases e with e | e
     . exact e
     . show w.heap.size<=j;omega
    clear x r y;go_wp2;go_roundw
    case rel=>exact⟨k+1,by omega,by go_num,S.o.1,S.o.2⟩
    case measure=>simp[intOf];omega
  . obtain rfl:k=l.length:=by omega
    rw[bN] at a;go_wp2;go_ret;exact⟨_,rfl,a.o,b.o⟩
structure X7 (S:Nat->Prop)(w:X)(g:Nat)(s:Sr.Sh)(w':X):Prop where
 at_:gX w' (gB S w) g s
 turns:Turns S w w'
theorem Mq {s:Sr.Sh}{S:Nat->Prop}{g:Nat}{w:X}(h:gX w S g s)(ok:Sr.Ok s)(a:Int):
 Calls prog 61 #[Q (M ⟨g,0,U⟩),I J a] w fun e w'=>e=Y (.tuple #[])∧X7 S w g (Sr.crash s a) w':=by
 obtain⟨gs,gl,ao,ca,P,hI⟩:=h;obtain⟨⟨c0,c1⟩,_⟩:=kG hI.row;have c:s.sure+oZ a (s.log.length-s.sure)=Sr.left s a:=rfl;have hll:=Sr.yG ok.sure a;have mO:=ok.few;obtain⟨hd1,i,y⟩:=Sr.U8 s a;have HC:=H9 (IC hI.log a);rw[c] at HC;have z:(s.log.take (Sr.left s a)).length=Sr.left s a:=by rw[bW];omega
 have HK:Hid (∀e∈(Jn.dec (s.log.take (Sr.left s a))).1,(1<=e.kind∧e.kind<=6)∧e.text.length<=1000000):=fun e he=>⟨X6 he,by have:=X5 he;omega⟩;have Lf:Hid (Sr.crash s a=⟨Sr.jw Sp.new (Jn.dec (s.log.take (Sr.left s a))).1,(s.log.take (Sr.left s a)).take (Jn.dec (s.log.take (Sr.left s a))).2,(Jn.dec (s.log.take (Sr.left s a))).2⟩):=by
  show _=_;rw[List.take_take,dP i];rfl
 have HI:=H9 hI;have hn5:Sr.left s a<=100000:=by omega
 clear hI c hll ok hd1;generalize s.log.take (Sr.left s a)=b at *;generalize Sr.left s a=n at *;subst z;clear mO;go_enter func61,ntmps61;go_wp2_with fail
 refine HC.o.mono ?_;rintro e w1 ⟨rfl,q,B⟩;obtain⟨r,C⟩:=HI.o.turned q B;obtain⟨⟨c0',c1'⟩,_⟩:=kG r.row;have D:=H9 (IB q);have G:=H9 r;have H:=H9 C
 clear q B r C c0 c1 HC HI;go_wp2_with fail
 refine D.o.mono ?_;rintro e w2 ⟨jZ,ca2,rfl,L,t⟩;have Zq:=H9 (Ml b jZ ca2 b.length w2 L rfl (by omega));have N:=H9 (G.o.stay t);have HT2:Hid (Turns S w w2):=H.o.trans (Turns.of_below t) (fun _ e _=>e);clear L t G H D c0' c1';go_wp2_with fail
 refine Zq.o.mono ?_;rintro e w3 ⟨kI,Yv,rfl,T,u⟩;have Qk:=N.o.stay u;obtain⟨⟨c0,c1⟩,_⟩:=kG Qk.row;have hgl:gl<w2.heap.size:=N.o.log.lt;have W:Hid (Turns S w w3):=HT2.o.trans (Turns.of_below u) (fun _ e _=>e);have HE3:=H9 T;have j:=H9 Qk
 clear T u Qk Zq;have l:Hid (∀f,rW f S g gs gl ao ca P ⟨s.h,b.take (Jn.dec b).2,(Jn.dec b).2⟩->Turns S w f->mV f (fun k=>w2.heap.size<=k) 226 kI Yv (Jn.dec b).1 ->
  f.cell? ⟨g,0,U⟩=M (Q (M ⟨gs,0,U⟩))∧Calls prog 107 #[Z kI (Jn.dec b).1.length Yv] f (fun e w'=>∃x,e=Y (Q (M ⟨x,0,U⟩))∧(w'.cell? ⟨g,0,U⟩=M (Q (M ⟨gs,0,U⟩))∧w'.frozen? ⟨g,0,U⟩=F)∧X7 S w g (Sr.crash s a) (w'.setCell ⟨g,0,U⟩ (Q (M ⟨x,0,U⟩))))):=fun f m vQ hE4=>by
  refine⟨(kG m.row).1.1,(Pv (Jn.dec b).1 kI Yv _ f hE4.ads rfl (by omega) HK.o).mono ?_⟩;rintro e w5 ⟨x,rfl,hS5,hb5⟩;obtain⟨hr,hA,Ot⟩:=m.laid hb5 hS5 (m.log.stay hb5) (Turns.refl _ _) (A rfl);refine⟨x,rfl,⟨(kG hr).1.1,(kG hr).2.1⟩,?_,vQ.trans Ot (fun _ e _=>e)⟩;rw[Lf.o];have hsz:=vQ.size;refine hA.mono (fun k _ e=>?_);rcases e with e | e
  . exact A e
  . exact R (by omega)
 by_cases hcut:(Jn.dec b).2<b.length
 . have JD:=H9 (DV j.o.log (Jn.dec b).2 hcut);have p:min b.length (Jn.dec b).2=(Jn.dec b).2:=Nat.min_eq_right i;simp only[p] at JD;clear p hcut i y HK Lf;generalize (Jn.dec b).1=el at *;generalize (Jn.dec b).2=dn at *;go_wp2_with fail
   refine JD.o.mono ?_;rintro e f ⟨rfl,hL4,DU⟩;obtain⟨m,vQ⟩:=j.o.turned hL4 DU;obtain⟨y0,d⟩:=l.o f m (W.o.trans vQ (fun _ e _=>e)) (HE3.o.turns DU (fun k e e2=>by subst e2;omega));have v:=H9 d;clear hL4 DU m vQ d l c0 c1;go_wp2_with fail
   refine v.o.mono ?_;rintro e w5 ⟨x,rfl,⟨z0,z1⟩,hF⟩;have HF:=H9 hF;clear hF y0;go_wp2;go_end0
   exact⟨rfl,HF.o⟩
 . have JD:=H9 (Gp j.o.log ((Jn.dec b).2:Int) (by show ¬(_∧_<(b.length:Int));omega));have hdn:(Jn.dec b).2=b.length:=by omega
   have m:rW w3 S g gs gl ao ca P ⟨s.h,b.take (Jn.dec b).2,(Jn.dec b).2⟩:=by
    have:=j.o;rw[hdn,bN];exact this
   obtain⟨y0,d⟩:=l.o w3 m W.o HE3.o;have v:=H9 d;clear hcut i y HK Lf d l hdn m;generalize (Jn.dec b).1=el at *;generalize (Jn.dec b).2=dn at *;go_wp2_with fail
   refine JD.o.mono ?_;rintro e f ⟨rfl,hw⟩;rw[hw];clear hw;go_wp2_with fail
   refine v.o.mono ?_;rintro e w5 ⟨x,rfl,⟨z0,z1⟩,hF⟩;have HF:=H9 hF;clear hF y0 c0 c1;go_wp2;go_end0
   exact⟨rfl,HF.o⟩
section
end
end Go.Proofs.YthhklgjjnaeaoaaGreatDoor