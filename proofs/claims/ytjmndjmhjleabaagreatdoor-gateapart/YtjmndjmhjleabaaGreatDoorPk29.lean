/- Small texts, one behind the other: PmRdD, PmRdE, PmFnd, PmFind, PmMedia, PmMedB, PmCaught. -/
import Derived.Test.YtjmndjmhjleabaaGreatDoorPk25
import Derived.Test.YtjmndjmhjleabaaGreatDoorPk23
open Go.Value renaming int->I,string->V,slice->Z,pointer->Q
open Go.IntKind renaming i64->J
open Go.Obj renaming cells->K
open Go.Ending renaming returned->Y
open Option renaming none->U,some->M
open Bool renaming false->F
open Go renaming World->X
set_option maxHeartbeats 3200000
set_option maxRecDepth 100000
open Go.Proofs.Tryz
namespace Go.Proofs.YtjmndjmhjleabaaGreatDoor
open Go.RowKit
def Pm.AY (l:au)(i:Nat):Nat ⊕ (au×Nat) :=
 if Pm.word l i=0 then .inl 5
 else if l[i+Pm.word l i]? = M 47 then
  (if Pm.word l (i + Pm.word l i + 1) = 0 then .inl 5
   else .inr (Ch.lower ((l.drop i).take (Pm.word l i))++[47]++Ch.lower ((l.drop (i+Pm.word l i+1)).take (Pm.word l (i+Pm.word l i+1))),i+Pm.word l i+1+Pm.word l (i+Pm.word l i+1)))
 else .inr (Ch.lower ((l.drop i).take (Pm.word l i)),i+Pm.word l i)
def abN (m:Nat ⊕ (au×Nat))(w:X)(g:Nat)(s:av)(e:Ending)(w':X):Prop:=match m with
 | .inl c=>e=gave c∧Turns (only g) w w'
 | .inr x=>e=Y (V ⟨x.1.toArray⟩)∧x.2<=s.size∧jd w' g s x.2∧Turns (only g) w w'
theorem qK (s:av)(i n:Nat):(s.extract i (i+n)).data.toList=(s.data.toList.drop i).take n:=by
 rw[Lib.extract_data];simp
theorem Lm (a b:au):Ch.lower (a++(47::b))=Ch.lower a++[47]++Ch.lower b:=by
 have:Ch.qB 47=47:=by decide
 simp[Ch.lower,this]
theorem Sc (s:av)(i g:Nat)(w:X)(h:jd w g s i)(v:s.size<=1000000)(O:i<=s.size):
 Calls prog 247 #[Q (M ⟨g,0,U⟩)] w fun e w'=>abN (Pm.AY s.data.toList i) w g s e w':=by
 have f:s.data.toList.length=s.size:=by rw[aN];rfl
 have P:=Pm.zx s.data.toList i (by rw[f];exact O);rw[f] at P;by_cases c:Pm.word s.data.toList i=0
 . have q:Hid (Pm.AY s.data.toList i=.inl 5):=by unfold Hid Pm.AY;rw[if_pos c]
   have C:=H9 (zV s i g w h v O c);clear c P f;go_enter func247,ntmps247;go_wp2_with fail
   refine C.o.mono ?_;rintro e S ⟨D,d⟩;unfold gave at D;subst D;go_wp2;refine⟨rfl,?_⟩;rw[q.o];exact⟨rfl,d⟩
 . have C:=H9 (xL s i g w h v O c);have G:=qK s i (Pm.word s.data.toList i);have hxz:(s.extract i (i+Pm.word s.data.toList i)).size<=s.size:=by simp;omega
   by_cases a:s.data.toList[i+Pm.word s.data.toList i]? = M 47
   . have hlt:i+Pm.word s.data.toList i<s.size:=by
      have:=(aP.1 a).1;rwa[f] at this
     have r:=Pm.zx s.data.toList (i+Pm.word s.data.toList i+1) (by rw[f];omega);rw[f] at r;by_cases b:Pm.word s.data.toList (i+Pm.word s.data.toList i+1)=0
     . have q:Hid (Pm.AY s.data.toList i=.inl 5):=by unfold Hid Pm.AY;rw[if_neg c,if_pos a,if_pos b]
       have t:=H9 a;have H1:=H9 b;clear c a b G r f;generalize Pm.word s.data.toList i=n at *;generalize s.extract i (i+n)=x at *;go_enter func247,ntmps247;go_wp2_with fail
       refine C.o.mono ?_;rintro e w1 ⟨rfl,b,j⟩;have k:=H9 j;have l:=H9 b;clear j b;go_wp2_with fail
       refine(wK s _ g 47 _ l.out v t.o).mono ?_;rintro e S ⟨rfl,d,p⟩;have z:=H9 (k.out.trans p (fun _ h _=>h));have B:=H9 d;clear p d k l;go_wp2_with fail
       refine(zV s _ g _ B.out v (by omega) H1.o).mono ?_;rintro e w3 ⟨D,H⟩;unfold gave at D;subst D;have T:=H9 (z.out.trans H (fun _ h _=>h));clear H;go_wp2;refine⟨rfl,?_⟩;rw[q.o];exact⟨rfl,T.out⟩
     . have hy:=qK s (i+Pm.word s.data.toList i+1) (Pm.word s.data.toList (i+Pm.word s.data.toList i+1));have hyz:(s.extract (i+Pm.word s.data.toList i+1) (i+Pm.word s.data.toList i+1+Pm.word s.data.toList (i+Pm.word s.data.toList i+1))).size<=s.size:=by simp;omega
       have q:Hid (Pm.AY s.data.toList i=.inr (Ch.lower (s.extract i (i+Pm.word s.data.toList i)).data.toList++[47]++Ch.lower (s.extract (i+Pm.word s.data.toList i+1) (i+Pm.word s.data.toList i+1+Pm.word s.data.toList (i+Pm.word s.data.toList i+1))).data.toList,i+Pm.word s.data.toList i+1+Pm.word s.data.toList (i+Pm.word s.data.toList i+1))):=by
        unfold Hid Pm.AY;rw[if_neg c,if_pos a,if_neg b,G,hy]
       have HK:=H9 (fun W (hW:jd W g s (i+Pm.word s.data.toList i+1))=>xL s (i+Pm.word s.data.toList i+1) g W hW v (by omega) b);have t:=H9 a;clear c a b G hy f;generalize Pm.word s.data.toList i=n at *;generalize Pm.word s.data.toList (i+n+1)=m at *;generalize s.extract i (i+n)=x at *;generalize s.extract (i+n+1) (i+n+1+m)=y at *;have hz:(x++(⟨#[47]⟩++y)).size<=maxLen:=by
        rw[bM,bM];show x.size+(1+y.size)<=maxLen;unfold maxLen;omega
       have N:=H9 (fun W=>oM (x++(⟨#[47]⟩++y)) W hz);have L:(x++(⟨#[47]⟩++y)).data.toList=x.data.toList++(47::y.data.toList):=by rw[Ch.data_append,Ch.data_append];rfl
       rw[L,Lm] at N;clear L hz;generalize Ch.lower x.data.toList++[47]++Ch.lower y.data.toList=lo at *;go_enter func247,ntmps247;go_wp2_with fail
       refine C.o.mono ?_;rintro e w1 ⟨rfl,b,j⟩;have k:=H9 j;have l:=H9 b;clear j b;go_wp2_with fail
       refine(wK s _ g 47 _ l.out v t.o).mono ?_;rintro e S ⟨rfl,d,p⟩;have z:=H9 (k.out.trans p (fun _ h _=>h));have B:=H9 d;clear p d k l;go_wp2_with fail
       refine(HK.o _ B.out).mono ?_;rintro e w3 ⟨rfl,h3,H⟩;have T:=H9 (z.out.trans H (fun _ h _=>h));have R3:=H9 h3;clear H h3 z B;generalize hX:x++(⟨#[47]⟩++y)=xy at *;go_wp2_with fail
       refine(N.o _).mono ?_;rintro e w4 ⟨rfl,u⟩;have T4:=H9 (T.out.trans (S':=only g) (Turns.of_below u) (fun _ h _=>h));have R4:=H9 (R3.out.keep u);clear u;go_wp2;go_ret;rw[q.o];exact⟨rfl,r,R4.out,T4.out⟩
   . have q:Hid (Pm.AY s.data.toList i=.inr (Ch.lower (s.extract i (i+Pm.word s.data.toList i)).data.toList,i+Pm.word s.data.toList i)):=by
      unfold Hid Pm.AY;rw[if_neg c,if_neg a,G]
     have HN:=H9 (fun W (hW:jd W g s (i+Pm.word s.data.toList i))=>Js s (i+Pm.word s.data.toList i) g 47 W hW a);clear c a G f;generalize Pm.word s.data.toList i=n at *;generalize s.extract i (i+n)=x at *;have N:=H9 (fun W=>oM x W (by unfold maxLen;omega));generalize Ch.lower x.data.toList=lo at *;go_enter func247,ntmps247;go_wp2_with fail
     refine C.o.mono ?_;rintro e w1 ⟨rfl,b,j⟩;have k:=H9 j;have l:=H9 b;clear j b;go_wp2_with fail
     refine(HN.o _ l.out).mono ?_;rintro e S ⟨rfl,d,p⟩;have z:=H9 (k.out.trans p (fun _ h _=>h));have B:=H9 d;clear p d k l;go_wp2_with fail
     refine(N.o _).mono ?_;rintro e w4 ⟨rfl,u⟩;have T4:=H9 (z.out.trans (S':=only g) (Turns.of_below u) (fun _ h _=>h));have R4:=H9 (B.out.keep u);clear u;go_wp2;go_ret;rw[q.o];exact⟨rfl,P,R4.out,T4.out⟩
def Pm.N7 (l:au)(i:Nat):Nat ⊕ (Pm.tK×au) :=
 if Pm.word l i=0 then .inl 5
 else if l[i+Pm.word l i]? = M 61 then (match Pm.val (l.drop (i+Pm.word l i+1)) with
  | .inl c=>.inl c
  | .inr x=>.inr ((Ch.lower ((l.drop i).take (Pm.word l i)),x.1),x.2))
 else .inl 5
theorem Pm.aaJ (l:au)(i:Nat):Pm.par (l.drop i)=if l[i]? = M 59 then Pm.N7 l (Pm.blanks l (i+1)) else .inl 5:=by
 rw[Pm.abx];rfl
def rW (m:Nat ⊕ (Pm.tK×au))(w:X)(g:Nat)(s:av)(e:Ending)(w':X):Prop:=match m with
 | .inl c=>e=gave c∧Turns (only g) w w'
 | .inr x=>e=Y (.agg #[V ⟨x.1.1.toArray⟩,V ⟨x.1.2.toArray⟩])∧(∃j,j<=s.size∧jd w' g s j∧s.data.toList.drop j=x.2)∧Turns (only g) w w'
theorem rW.no {m:Nat ⊕ (Pm.tK×au)}{w w':X}{g:Nat}{s:av}{c:Nat}(a:m=.inl c)(b:Turns (only g) w w'):rW m w g s (gave c) w':=by
 subst a;exact⟨rfl,b⟩
theorem rW.yes {m:Nat ⊕ (Pm.tK×au)}{w w':X}{g j:Nat}{s:av}{n v r:au}(a:m=.inr ((n,v),r))(b:j<=s.size)(c:jd w' g s j)(hd:s.data.toList.drop j=r)(d:Turns (only g) w w'):rW m w g s (Y (.agg #[V ⟨n.toArray⟩,V ⟨v.toArray⟩])) w':=by
 subst a;exact⟨rfl,⟨j,b,c,hd⟩,d⟩
structure AZ (w:X)(g:Nat)(s:av)(k:Nat)(W:X):Prop where
 res:W.heap[w.heap.size]? = M (K #[V ⟨#[]⟩,V ⟨#[]⟩] 202 (0,0))
 rd:jd W g s k
 turns:Turns (only g) w W
 lt:g<w.heap.size
section
variable {w W w1:X} {g k k':Nat} {s:av}
theorem AZ.made (h:jd w g s k):AZ w g s k (w.alloc (K #[V ⟨#[]⟩,V ⟨#[]⟩] 202)) :=
 ⟨fH w _,h.keep ((fI _ _).alloc (aL _) _),Turns.of_below ((fI _ _).alloc (aL _) _),h.lt⟩
theorem AZ.feed (h:AZ w g s k W)(b:jd w1 g s k')(a:Turns (only g) W w1):AZ w g s k' w1 :=
 ⟨a.row h.res (fun e=>by have:=h.lt;unfold only at e;omega),b,h.turns.trans a (fun _ h _=>h),h.lt⟩
theorem AZ.keep (h:AZ w g s k W)(a:Below W.heap.size W w1):AZ w g s k w1:=h.feed (h.rd.keep a) (Turns.of_below a)
theorem AZ.cells (h:AZ w g s k W):W.cell? ⟨w.heap.size,0,U⟩=M (V ⟨#[]⟩)∧W.cell? ⟨w.heap.size,1,U⟩=M (V ⟨#[]⟩)∧W.frozen? ⟨w.heap.size,0,U⟩=F∧W.frozen? ⟨w.heap.size,1,U⟩=F :=
 ⟨fJ W _ 0 _ _ _ h.res,fJ W _ 1 _ _ _ h.res,fK W _ 0 _ _ h.res,fK W _ 1 _ _ h.res⟩
theorem AZ.told (h:AZ w g s k W)(a b:Value):jd ((W.setCell ⟨w.heap.size,0,U⟩ a).setCell ⟨w.heap.size,1,U⟩ b) g s k∧Turns (only g) w ((W.setCell ⟨w.heap.size,0,U⟩ a).setCell ⟨w.heap.size,1,U⟩ b):=by
 have c:Turns (fun i=>i=w.heap.size) W ((W.setCell ⟨w.heap.size,0,U⟩ a).setCell ⟨w.heap.size,1,U⟩ b) :=
  Turns.trans (S:=fun i=>i=w.heap.size) (Turns.setCell (fun i=>i=w.heap.size) W ⟨w.heap.size,0,U⟩ a rfl) (Turns.setCell (fun i=>i=w.heap.size) _ _ _ rfl) (fun _ h _=>h)
 have:=h.lt;exact⟨h.rd.turns c (by omega),h.turns.trans c (fun i e d=>by omega)⟩
end
theorem N8 (s:av)(i g:Nat)(w:X)(h:jd w g s i)(hs:s.size<=100000)(hi:i<=s.size):
 Calls prog 250 #[Q (M ⟨g,0,U⟩)] w fun e w'=>rW (Pm.N7 s.data.toList i) w g s e w':=by
 have C:s.data.toList.length=s.size:=by rw[aN];rfl
 have hw:=Pm.zx s.data.toList i (by rw[C];exact hi);rw[C] at hw;have u:=H9 (AZ.made h);clear h;by_cases T:Pm.word s.data.toList i=0
 . have D:Hid (Pm.N7 s.data.toList i=.inl 5):=by unfold Hid Pm.N7;rw[if_pos T]
   have B:=H9 (zV s i g _ u.o.rd (by omega) hi T);clear T hw C;go_enter func250,ntmps250;go_wp2_with fail
   refine B.o.mono ?_;rintro e w2 ⟨k,t2⟩;unfold gave at k;subst k;have T2:=H9 (u.o.turns.trans t2 (fun _ h _=>h));clear t2;go_wp2;exact⟨rfl,rW.no D.o T2.out⟩
 . have B:=H9 (xL s i g _ u.o.rd (by omega) hi T);have hx:=qK s i (Pm.word s.data.toList i);have hxz:(s.extract i (i+Pm.word s.data.toList i)).size<=s.size:=by simp;omega
   have d:Pm.N7 s.data.toList i=if s.data.toList[i+Pm.word s.data.toList i]? = M 61 then (match Pm.val (s.data.toList.drop (i+Pm.word s.data.toList i+1)) with
    | .inl c=>.inl c
    | .inr x=>.inr ((Ch.lower (s.extract i (i+Pm.word s.data.toList i)).data.toList,x.1),x.2)) else .inl 5:=by
    unfold Pm.N7;rw[if_neg T,hx]
   clear hx T;generalize Pm.word s.data.toList i=n at *;generalize s.extract i (i+n)=x at *;have L:=H9 (fun W=>oM x W (by unfold maxLen;omega));generalize Ch.lower x.data.toList=nm at *;by_cases l:s.data.toList[i+n]? = M 61
   . rw[if_pos l] at d;have hlt:i+n<s.size:=by
      have:=(aP.1 l).1;rwa[C] at this
     have N:=H9 l;rw[Pm.abw] at d;have hw2:=Pm.zx s.data.toList (i+n+1) (by rw[C];omega);rw[C] at hw2;clear l;by_cases S:s.data.toList[i+n+1]? = M 34
     . rw[if_pos S] at d;have hlt2:i+n+1<s.size:=by
        have:=(aP.1 S).1;rwa[C] at this
       have G:=H9 S;have HQ:=H9 (fun W (O:jd W g s (i+n+1+1))=>NZ s (i+n+1+1) g W O (by omega) (by omega));clear S C;cases hq:Pm.quo [] (s.data.toList.drop (i+n+1+1)) with
       | none =>
         rw[hq] at HQ d;have D:=H9 d;clear d hq;go_enter func250,ntmps250;go_wp2_with fail
         refine B.o.mono ?_;rintro e w1 ⟨rfl,a,b⟩;have q:=H9 (u.o.feed a b);clear a b B u;go_wp2_with fail
         refine(L.o _).mono ?_;rintro e w2 ⟨rfl,t⟩;have f:=H9 (q.out.keep t);clear t q L;go_wp2_with fail
         refine(wL s _ g 61 _ f.out.rd (by omega) N.o).mono ?_;rintro e w3 ⟨rfl,a,b⟩;have p:=H9 (f.out.feed a b);clear a b f;go_wp2_with fail
         refine(wK s _ g 34 _ p.out.rd (by omega) G.o).mono ?_;rintro e w4 ⟨rfl,a,b⟩;have z:=H9 (p.out.feed a b);clear a b p;go_wp2_with fail
         refine(HQ.o _ z.out.rd).mono ?_;rintro e w5 ⟨P,k⟩;simp only[] at k;unfold gave at k;subst k;have T5:=H9 (z.out.turns.trans P (fun _ h _=>h));clear P;go_wp2;exact⟨rfl,rW.no D.o T5.out⟩
       | some y =>
         obtain⟨v,r⟩:=y;rw[hq] at HQ d;have D:=H9 d;clear d hq;go_enter func250,ntmps250;go_wp2_with fail
         refine B.o.mono ?_;rintro e w1 ⟨rfl,a,b⟩;have q:=H9 (u.o.feed a b);clear a b B u;go_wp2_with fail
         refine(L.o _).mono ?_;rintro e w2 ⟨rfl,t⟩;have f:=H9 (q.out.keep t);clear t q L;go_wp2_with fail
         refine(wL s _ g 61 _ f.out.rd (by omega) N.o).mono ?_;rintro e w3 ⟨rfl,a,b⟩;have p:=H9 (f.out.feed a b);clear a b f;go_wp2_with fail
         refine(wK s _ g 34 _ p.out.rd (by omega) G.o).mono ?_;rintro e w4 ⟨rfl,a,b⟩;have z:=H9 (p.out.feed a b);clear a b p;go_wp2_with fail
         refine(HQ.o _ z.out.rd).mono ?_;rintro e w5 ⟨P,k⟩;simp only[] at k;obtain⟨rfl,j,hj,h5,hd⟩:=k;have P5:=H9 (z.out.feed h5 P);have HD:=H9 hd;clear P h5 hd z;obtain⟨c0,c1,f0,f1⟩:=P5.out.cells;have H:=H9 (P5.out.told (V ⟨nm.toArray⟩) (V ⟨v.toArray⟩));go_wp2;refine gq (v:=.agg #[V ⟨nm.toArray⟩,V ⟨v.toArray⟩]) (by simp[results,results250,go_sem,c0,c1]) rfl ?_;exact rW.yes D.o hj H.o.1 HD.o H.o.2
     . rw[if_neg S] at d;have G:=H9 (fun W (O:jd W g s (i+n+1))=>Js s (i+n+1) g 34 W O S);clear S;by_cases a:Pm.word s.data.toList (i+n+1)=0
       . rw[if_pos a] at d;have HK:=H9 (fun W (O:jd W g s (i+n+1))=>zV s (i+n+1) g W O (by omega) (by omega) a);have D:=H9 d;clear d a C;go_enter func250,ntmps250;go_wp2_with fail
         refine B.o.mono ?_;rintro e w1 ⟨rfl,a,b⟩;have q:=H9 (u.o.feed a b);clear a b B u;go_wp2_with fail
         refine(L.o _).mono ?_;rintro e w2 ⟨rfl,t⟩;have f:=H9 (q.out.keep t);clear t q L;go_wp2_with fail
         refine(wL s _ g 61 _ f.out.rd (by omega) N.o).mono ?_;rintro e w3 ⟨rfl,a,b⟩;have p:=H9 (f.out.feed a b);clear a b f;go_wp2_with fail
         refine(G.o _ p.out.rd).mono ?_;rintro e w4 ⟨rfl,a,b⟩;have z:=H9 (p.out.feed a b);clear a b p;go_wp2_with fail
         refine(HK.o _ z.out.rd).mono ?_;rintro e w5 ⟨k,P⟩;unfold gave at k;subst k;have T5:=H9 (z.out.turns.trans P (fun _ h _=>h));clear P;go_wp2;exact⟨rfl,rW.no D.o T5.out⟩
       . have hy:=qK s (i+n+1) (Pm.word s.data.toList (i+n+1));have hyz:(s.extract (i+n+1) (i+n+1+Pm.word s.data.toList (i+n+1))).size<=s.size:=by simp;omega
         rw[if_neg a,<-hy] at d;have HK:=H9 (fun W (O:jd W g s (i+n+1))=>xL s (i+n+1) g W O (by omega) (by omega) a);have D:=H9 d;clear d a C hy;generalize Pm.word s.data.toList (i+n+1)=m at *;generalize s.extract (i+n+1) (i+n+1+m)=y at *;have Al:=H9 (fun W=>lK y W (by omega));have hye:(⟨y.data.toList.toArray⟩:av)=y:=rfl;go_enter func250,ntmps250;go_wp2_with fail
         refine B.o.mono ?_;rintro e w1 ⟨rfl,a,b⟩;have q:=H9 (u.o.feed a b);clear a b B u;go_wp2_with fail
         refine(L.o _).mono ?_;rintro e w2 ⟨rfl,t⟩;have f:=H9 (q.out.keep t);clear t q L;go_wp2_with fail
         refine(wL s _ g 61 _ f.out.rd (by omega) N.o).mono ?_;rintro e w3 ⟨rfl,a,b⟩;have p:=H9 (f.out.feed a b);clear a b f;go_wp2_with fail
         refine(G.o _ p.out.rd).mono ?_;rintro e w4 ⟨rfl,a,b⟩;have z:=H9 (p.out.feed a b);clear a b p;go_wp2_with fail
         refine(HK.o _ z.out.rd).mono ?_;rintro e w5 ⟨rfl,a,b⟩;have P5:=H9 (z.out.feed a b);clear a b z;go_wp2_with fail
         refine(Al.o _).mono ?_;rintro e w6 ⟨rfl,b6⟩;have P6:=H9 (P5.out.keep b6);clear b6 P5;obtain⟨c0,c1,f0,f1⟩:=P6.out.cells;have H:=H9 (P6.out.told (V ⟨nm.toArray⟩) (V y));go_wp2;refine gq (v:=.agg #[V ⟨nm.toArray⟩,V y]) (by simp[results,results250,go_sem,c0,c1]) rfl ?_;exact rW.yes D.o (j:=i+n+1+m) hw2 H.o.1 rfl H.o.2
   . rw[if_neg l] at d;have D:=H9 d;have HN:=H9 (fun W (O:jd W g s (i+n))=>QC s (i+n) g 61 W O l);clear d l C;go_enter func250,ntmps250;go_wp2_with fail
     refine B.o.mono ?_;rintro e w1 ⟨rfl,a,b⟩;have q:=H9 (u.o.feed a b);clear a b B u;go_wp2_with fail
     refine(L.o _).mono ?_;rintro e w2 ⟨rfl,t⟩;have f:=H9 (q.out.keep t);clear t q L;go_wp2_with fail
     refine(HN.o _ f.out.rd).mono ?_;rintro e w3 ⟨k,t3⟩;unfold gave at k;subst k;have T3:=H9 (f.out.turns.trans t3 (fun _ h _=>h));clear t3;go_wp2;exact⟨rfl,rW.no D.o T3.out⟩
def QF (l:ak)(nm:av)(r:Int):Prop :=
 (r=-1∧∀p∈l,p.1.data.toList≠nm.data.toList)∨∃k,∃h:k<l.length,r=k∧l[k].1.data.toList=nm.data.toList∧∀p∈l.take k,p.1.data.toList≠nm.data.toList
theorem Lr (n v a:av)(b:Nat)(w:X)(d:w.cell? ⟨b,0,U⟩=M (V a)):
 Calls prog 264 #[.agg #[V n,V v],Q (M ⟨b,0,U⟩)] w fun e w'=>e=Y (.bool (decide (n.data.toList=a.data.toList)))∧w'=w.alloc (K #[V n,V v] 202):=by
 have c:=Sd n a;have f:b<w.heap.size:=fZ w _ d;have g:(w.alloc (K #[V n,V v] 202)).cell? ⟨b,0,U⟩=M (V a):=by
  rw[((fI w.heap.size w).alloc (aL _) _).cell (p:=⟨b,0,U⟩) f];exact d
 generalize decide (n.data.toList=a.data.toList)=t at c;go_enter func264,ntmps264;go_wp2;go_ret;exact⟨by rw[<-c];rfl,rfl⟩
theorem FZ (l:ak)(d:av)(ao:aj)(cap n b:Nat)(w:X)(x:jm w ao cap n (gT l))(O:l.length=n)(hN:n<=1000000)(y:w.cell? ⟨b,0,U⟩=M (V d)):
 Calls prog 263 #[Z ao n cap,.func (.func 264) #[] #[Q (M ⟨b,0,U⟩)]] w fun e w'=>∃r:Int,e=Y (I J r)∧QF l d r∧Below w.heap.size w w':=by
 subst O;have H:=H9 x;have P:=H9 y;have D:=x.1;have S:b<w.heap.size:=fZ w _ y;clear x y;go_enter func263,ntmps263;go_wp2;go_loopw [8] (fun t wr=>∃k:Nat,k<=l.length∧t=I J k∧Below w.heap.size w wr∧∀p∈l.take k,p.1.data.toList≠d.data.toList) (fun t _=>l.length-(intOf t).toNat)
 case atStart=>exact⟨0,ay _,rfl,fI _ _,fun p z=>by simp at z⟩
 case round =>
  obtain⟨k,hk,rfl,G,m⟩:=hrel;have q:=H9 G;have s:=H9 m;clear G m;by_cases a:k<l.length
  . obtain⟨T,W,rfl,f⟩:=(H.o.stay q.o).lit (by rw[mV];omega);have hc0:=f _ _ (nX l k a).1;have hc1:wr.cell? ⟨T,W+k*2+1,U⟩=M (V l[k].2):=by
     have:=f _ _ (nX l k a).2;rwa[<-bK] at this
    clear f;have L:(k:Int)<l.length:=by omega
    have N:Hid (l.take (k+1)=l.take k++[l[k]]):=bN a;have v:=H9 (Lr l[k].1 l[k].2 d b wr (by rw[q.o.cell (p:=⟨b,0,U⟩) S];exact P.o));have c:Hid (Below w.heap.size w (wr.alloc (K #[V l[k].1,V l[k].2] 202))):=q.o.alloc q.o.size _;by_cases j:l[k].1.data.toList=d.data.toList
    . rw[aH j] at v;have B:Hid (QF l d k):=Or.inr ⟨k,a,rfl,j,s.o⟩;clear j s N;generalize l[k]=p at *;go_wp2_with fail
      refine v.o.mono ?_;rintro e C ⟨rfl,u⟩;have g:Hid (Below w.heap.size w C):=by rw[u];exact c.o
      clear u c;go_wp2;go_ret;exact⟨k,rfl,B.o,g.o⟩
    . rw[aI j] at v;have HE:=H9 j;clear j;generalize l[k]=p at *;go_wp2_with fail
      refine v.o.mono ?_;rintro e C ⟨rfl,u⟩;have g:Hid (Below w.heap.size w C):=by rw[u];exact c.o
      clear u c;go_wp2;go_roundw
      case rel =>
       refine⟨k+1,by omega,by go_num,g.o,fun r i=>?_⟩;rw[N.o,bA] at i;rcases i with i | i
       . exact s.o r i
       . rw[bB] at i;subst i;exact HE.o
      case measure=>simp[intOf];omega
  . obtain rfl:k=l.length:=by omega
    have B:Hid (QF l d (-1)):=Or.inl ⟨rfl,fun p z=>s.o p (by rw[bO];exact z)⟩;clear s;go_wp2;go_ret;exact⟨-1,rfl,B.o,q.o⟩
theorem xM (l:ak)(a:av)(ao:aj)(cap n:Nat)(w:X)(d:jm w ao cap n (gT l))(j:l.length=n)(k:n<=1000000):
 Calls prog 229 #[Z ao n cap,V a] w fun e w'=>∃r:Int,e=Y (I J r)∧QF l a r∧Below w.heap.size w w':=by
 have b:Below w.heap.size w (w.alloc (K #[V a] 9)):=(fI _ _).alloc (aL _) _;have m:=H9 (FZ l a ao cap n w.heap.size (w.alloc (K #[V a] 9)) (d.stay b) j k (World.cell?_alloc_mark w _ _ _ 0));have p:=H9 b;have s:∀(f:Fn) (first cap:Array Value) (w:X),(Instr.makeFunc f first cap).run prog w=.ok (.func f first cap) w:=fun _ _ _ _=>rfl;clear d b;go_enter func229,ntmps229;go_wp2_with fail
 refine m.o.mono ?_;rintro e t ⟨r,rfl,g,i⟩;have q:=H9 g;have c:=H9 (then_ p.o i);clear g i;go_wp2;go_ret;exact⟨r,rfl,q.o,c.o⟩
theorem Wv (l:ak)(a v:av)(ao:aj)(cap n:Nat)(w:X)(f:jm w ao cap n (gT l))(j:l.length=n)(t:n<8)(b:∀p∈l,p.1.data.toList≠a.data.toList):
 Calls prog 251 #[.agg #[V a,V v],Z ao n cap] w fun e w'=>e=Y (.tuple #[])∧Below w.heap.size w w':=by
 have c:Below w.heap.size w (w.alloc (K #[V a,V v] 202)):=(fI _ _).alloc (aL _) _;have m:=H9 (xM l a ao cap n (w.alloc (K #[V a,V v] 202)) (f.stay c) j (by omega));have q:=H9 c;have s:=H9 b;have u:decide ((n:Int)≥8)=F:=by rw[bP];omega
 clear f c b;go_enter func251,ntmps251;go_wp2_with fail
 refine m.o.mono ?_;rintro e x ⟨r,rfl,g,i⟩;have d:=H9 (then_ q.o i);obtain rfl:r=-1:=by
  rcases g with ⟨e,_⟩ | ⟨k,h,_,e,_⟩
  . exact e
  . exact absurd e (s.o _ (aB h))
 clear g i;go_wp2;go_end0
 exact⟨rfl,d.o⟩
theorem Oa (l:ak)(a v:av)(ao:aj)(cap n:Nat)(w:X)(f:jm w ao cap n (gT l))(j:l.length=n)(t:8<=n)(u:n<=1000000)(b:∀p∈l,p.1.data.toList≠a.data.toList):
 Calls prog 251 #[.agg #[V a,V v],Z ao n cap] w fun e w'=>e=gave 8∧Below w.heap.size w w':=by
 have c:Below w.heap.size w (w.alloc (K #[V a,V v] 202)):=(fI _ _).alloc (aL _) _;have m:=H9 (xM l a ao cap n (w.alloc (K #[V a,V v] 202)) (f.stay c) j (by omega));have q:=H9 c;have s:=H9 b;have x:decide ((n:Int)≥8)=true:=by rw[bQ];omega
 clear f c b;go_enter func251,ntmps251;go_wp2_with fail
 refine m.o.mono ?_;rintro e y ⟨r,rfl,g,i⟩;have d:=H9 (then_ q.o i);obtain rfl:r=-1:=by
  rcases g with ⟨e,_⟩ | ⟨k,h,_,e,_⟩
  . exact e
  . exact absurd e (s.o _ (aB h))
 clear g i;go_wp2;exact⟨rfl,rfl,d.o⟩
theorem Ls (l:ak)(a v:av)(ao:aj)(cap n:Nat)(w:X)(f:jm w ao cap n (gT l))(b:l.length=n)(x:n<=8)(g:∃p∈l,p.1.data.toList=a.data.toList):
 Calls prog 251 #[.agg #[V a,V v],Z ao n cap] w fun e w'=>e=gave 9∧Below w.heap.size w w':=by
 have c:Below w.heap.size w (w.alloc (K #[V a,V v] 202)):=(fI _ _).alloc (aL _) _;have m:=H9 (xM l a ao cap n (w.alloc (K #[V a,V v] 202)) (f.stay c) b (by omega));have q:=H9 c;have s:=H9 g;clear f c g;go_enter func251,ntmps251;go_wp2_with fail
 refine m.o.mono ?_;rintro e y ⟨r,rfl,i,j⟩;have d:=H9 (then_ q.o j);have t:0<=r:=by
  rcases i with ⟨_,b⟩ | ⟨k,h,rfl,_,_⟩
  . obtain⟨p,u,e⟩:=s.o;exact absurd e (b p u)
  . omega
 have z:decide (r≥0)=true:=by rw[bQ];exact t
 clear i j;go_wp2;exact⟨rfl,rfl,d.o⟩
theorem Pm.Sg {r v r':au}(h:Pm.val r=.inr (v,r')):r'.length<=r.length:=by
 unfold Pm.val at h;split at h
 . split at h
   . cases h
   . rename_i x a;injection h with h;subst h;have:=(Pm.GQ _ _ _ _ _ (aL _) a).1;rw[bR] at this;omega
 . split at h
   . cases h
   . injection h with h;injection h with _ b;subst b;exact(bS (l:=r) Pm.tok).length_le
theorem Pm.Si {r r':au}{p:Pm.tK}(h:Pm.par r=.inr (p,r')):r'.length<r.length:=by
 unfold Pm.par at h;split at h
 . rename_i b;simp only[] at h;split at h
   . cases h
   . split at h
     . split at h
       . cases h
       . rename_i x c;injection h with h;injection h with _ d;subst d;have e:=Pm.Sg (v:=x.1) (r':=x.2) c;rw[bR] at e;have g:=(bS (l:=r.tail.dropWhile Pm.blank) Pm.tok).length_le;have f:=(bS (l:=r.tail) Pm.blank).length_le;rw[bR] at f;cases r with
         | nil=>simp at b
         | cons a t =>
           rw[aW] at *;omega
     . cases h
 . cases h
def Pm.Ew (l:au)(i:Nat):Nat ⊕ (au×List Pm.tK):=match Pm.AY l (Pm.blanks l i) with
 | .inl c=>.inl c
 | .inr x=>Pm.fin (l.length+1) x.1 (l.drop x.2) []
theorem Pm.Zp (l:au)(d:Ch.iw l=true):Pm.kr l=Pm.Ew l 0:=by
 rw[Pm.Vj l d _ _ rfl rfl];unfold Pm.Ew Pm.AY;by_cases b:Pm.word l (Pm.blanks l 0)=0
 . rw[if_pos b,if_pos b]
 . rw[if_neg b,if_neg b];by_cases a:l[Pm.blanks l 0+Pm.word l (Pm.blanks l 0)]? = M 47
   . rw[if_pos a,if_pos a];by_cases c:Pm.word l (Pm.blanks l 0+Pm.word l (Pm.blanks l 0)+1)=0
     . rw[if_pos c,if_pos c]
     . rw[if_neg c,if_neg c]
   . rw[if_neg a,if_neg a]
def BR (m:Nat ⊕ (au×List Pm.tK))(w:X)(g:Nat)(e:Ending)(w':X):Prop:=match m with
 | .inl c=>e=gave c∧Turns (only g) w w'
 | .inr x=>∃word ps ao cap,e=Y (.agg #[V word,Z ao ps.length cap])∧word.data.toList=x.1∧mh ps=x.2∧gU w' w.heap.size 202 2 ao cap ps.length (gT ps)∧Turns (only g) w w'
theorem BR.no {m:Nat ⊕ (au×List Pm.tK)}{w w':X}{g c:Nat}(a:m=.inl c)(b:Turns (only g) w w'):BR m w g (gave c) w':=by
 subst a;exact⟨rfl,b⟩
structure rX (w:X)(g mb:Nat)(s:av)(k:Nat)(word:av)(ps:ak)(ao:aj)(cap:Nat)(wr:X):Prop where
 res:wr.heap[w.heap.size]? = M (K #[V ⟨#[]⟩,Z U 0 0] 172 (0,0))
 med:wr.heap[mb]? = M (K #[V word,Z ao ps.length cap] 172 (0,0))
 own:gU wr w.heap.size 202 2 ao cap ps.length (gT ps)
 rd:jd wr g s k
 turns:Turns (only g) w wr
 lt:g<w.heap.size
 mb_:w.heap.size<mb
section
variable {w wr w1 w3:X} {g mb k k':Nat} {s word:av} {ps ps':ak} {ao gV:aj} {cap cap':Nat}
theorem rX.apart (h:rX w g mb s k word ps ao cap wr)(a:Addr)(e:ao=M a):a.block≠w.heap.size∧a.block≠mb:=by
 have b:=lF h.res h.own (by decide);have c:=lF h.med h.own (by decide);rw[gN,e] at b c;exact⟨fun e=>b (by simp[gK,e]),fun e=>c (by simp[gK,e])⟩
theorem rX.feed (h:rX w g mb s k word ps ao cap wr)(c:jd w1 g s k')(b:Turns (only g) wr w1):rX w g mb s k' word ps ao cap w1:=by
 have d:=h.lt;have f:=h.mb_;exact⟨b.row h.res (fun e=>by unfold only at e;omega),b.row h.med (fun e=>by unfold only at e;omega),h.own.turns b (fun a e i=>by have:=(h.own.block a e).1;unfold only at i;omega),c,h.turns.trans b (fun _ h _=>h),d,f⟩
theorem rX.keep (h:rX w g mb s k word ps ao cap wr)(a:Below wr.heap.size wr w1):rX w g mb s k word ps ao cap w1:=h.feed (h.rd.keep a) (Turns.of_below a)
theorem rX.cells (h:rX w g mb s k word ps ao cap wr):wr.cell? ⟨w.heap.size,0,U⟩=M (V ⟨#[]⟩)∧wr.cell? ⟨w.heap.size,1,U⟩=M (Z U 0 0)∧wr.frozen? ⟨w.heap.size,0,U⟩=F∧wr.frozen? ⟨w.heap.size,1,U⟩=F ∧
 wr.cell? ⟨mb,0,U⟩=M (V word)∧wr.cell? ⟨mb,1,U⟩=M (Z ao ps.length cap)∧wr.frozen? ⟨mb,0,U⟩=F∧wr.frozen? ⟨mb,1,U⟩=F :=
 ⟨fJ wr _ 0 _ _ _ h.res,fJ wr _ 1 _ _ _ h.res,fK wr _ 0 _ _ h.res,fK wr _ 1 _ _ h.res,fJ wr _ 0 _ _ _ h.med,fJ wr _ 1 _ _ _ h.med,fK wr _ 0 _ _ h.med,fK wr _ 1 _ _ h.med⟩
theorem rX.grows (h:rX w g mb s k word ps ao cap wr)(b:Obj)(c:(wr.alloc b).grownBy w3 (gK ao)):Turns (fun i=>w.heap.size<=i∧i≠w.heap.size∧i≠mb) wr w3 :=
 (Turns.iY (gy wr b U) (fun k e => by cases e)).trans (Turns.iY (S := fun i => w.heap.size <= i ∧ i ≠ w.heap.size ∧ i ≠ mb) c (fun i e => by
  cases ao with
  | none=>simp[gK] at e
  | some a=>simp only[gK,bT] at e;subst e;exact⟨(h.own.block a rfl).1,(h.apart a rfl).1,(h.apart a rfl).2⟩)) (fun _ h _=>h)
theorem rX.uF (h:rX w g mb s k word ps ao cap wr)(f:gU w3 w.heap.size 202 2 gV cap' ps'.length (gT ps'))(b:Turns (fun i=>w.heap.size<=i∧i≠w.heap.size∧i≠mb) wr w3)(n:Nat)(m:n=ps'.length):rX w g mb s k word ps' gV cap' (w3.setCell ⟨mb,1,U⟩ (Z gV n cap')):=by
 subst m;have o:=h.lt;have p:=h.mb_;have q:=b.row h.res (fun e=>e.2.1 rfl);have j:=b.row h.med (fun e=>e.2.2 rfl);have r:=h.rd.turns b (fun e=>by omega);have d:∀a,gV=M a->a.block≠mb:=fun a e=>by
  have l:=lF j f (by decide);rw[gN,e] at l;exact fun e=>l (by simp[gK,e])
 have c:=Turns.setCell (fun i=>i=mb) w3 ⟨mb,1,U⟩ (Z gV ps'.length cap') rfl;refine⟨c.row q (by omega),?_,f.turns c (fun a e t=>d a e t),r.turns c (by omega),(h.turns.trans b (fun i e u=>by omega)).trans c (fun i e u=>by omega),o,p⟩;rw[fM w3 mb 1 _ _ _ j];rfl
theorem rX.start (b:wr.heap[w.heap.size]? = M (K #[V ⟨#[]⟩,Z U 0 0] 172 (0,0)))(h:jd wr g s k)(d:Turns (only g) w wr)(e:g<w.heap.size)(x:av):rX w g wr.heap.size s k x [] U 0 (wr.alloc (K #[V x,Z U 0 0] 172)):=by
 have a:Below wr.heap.size wr (wr.alloc (K #[V x,Z U 0 0] 172)):=(fI _ _).alloc (aL _) _;have c:=(aK.1 b).1;exact⟨(a.block _ c).trans b,fH wr _,gU.nil _ _ _ _,h.keep a,d.trans (S':=only g) (Turns.of_below a) (fun _ h _=>h),e,c⟩
theorem rX.told (h:rX w g mb s k word ps ao cap wr)(a b:Value):gU ((wr.setCell ⟨w.heap.size,0,U⟩ a).setCell ⟨w.heap.size,1,U⟩ b) w.heap.size 202 2 ao cap ps.length (gT ps)∧Turns (only g) w ((wr.setCell ⟨w.heap.size,0,U⟩ a).setCell ⟨w.heap.size,1,U⟩ b):=by
 have c:Turns (fun i=>i=w.heap.size) wr ((wr.setCell ⟨w.heap.size,0,U⟩ a).setCell ⟨w.heap.size,1,U⟩ b) :=
  Turns.trans (S:=fun i=>i=w.heap.size) (Turns.setCell (fun i=>i=w.heap.size) wr ⟨w.heap.size,0,U⟩ a rfl) (Turns.setCell (fun i=>i=w.heap.size) _ _ _ rfl) (fun _ h _=>h)
 exact⟨h.own.turns c (fun a e d=>(h.apart a e).1 d),h.turns.trans c (fun i e f=>by omega)⟩
end
theorem Sj {a:ak}{b:au}(h:((mh a).any fun q=>q.1==b)=true):∃p∈a,p.1.data.toList=b:=by
 rw[List.any_eq_true] at h;obtain⟨q,c,e⟩:=h;obtain⟨p,d,rfl⟩:=aM.1 c;exact⟨p,d,by simpa using e⟩
theorem Oc {a:ak}{b:au}(h:¬((mh a).any fun q=>q.1==b)=true):∀p∈a,p.1.data.toList≠b:=by
 intro p c e;exact h (List.any_eq_true.2 ⟨_,aM.2 ⟨p,c,rfl⟩,by simp[e]⟩)
theorem Ey (s:av)(g:Nat)(w:X)(h:jd w g s 0)(hs:s.size<=100000):
 Calls prog 213 #[Q (M ⟨g,0,U⟩)] w fun e w'=>BR (Pm.Ew s.data.toList 0) w g e w':=by
 have hl:s.data.toList.length=s.size:=by rw[aN];rfl
 have HL:=H9 hl;have hlt:=h.lt;have hb0:=Pm.xA s.data.toList 0 (ay _);rw[hl] at hb0;have hB:Below w.heap.size w (w.alloc (K #[V ⟨#[]⟩,Z U 0 0] 172)):=(fI _ _).alloc (aL _) _;have R0:Hid ((w.alloc (K #[V ⟨#[]⟩,Z U 0 0] 172)).heap[w.heap.size]? = M (K #[V ⟨#[]⟩,Z U 0 0] 172 (0,0))):=fH w _;have HB:=H9 (sP s 0 g _ (h.keep hB) (by omega) (ay _));have T0:=H9 (Turns.of_below (S:=only g) hB);have HW:=H9 (fun W (hW:jd W g s (Pm.blanks s.data.toList 0))=>Sc s (Pm.blanks s.data.toList 0) g W hW (by omega) hb0);have a:Pm.Ew s.data.toList 0=match Pm.AY s.data.toList (Pm.blanks s.data.toList 0) with
  | .inl c=>.inl c
  | .inr x=>Pm.fin (s.data.toList.length+1) x.1 (s.data.toList.drop x.2) []:=rfl
 clear hB h hl;cases hm:Pm.AY s.data.toList (Pm.blanks s.data.toList 0) with
 | inl c =>
   rw[hm] at HW a;have HM:=H9 a;clear a hm;go_enter func213,ntmps213;go_wp2_with fail
   refine HB.o.mono ?_;rintro e w1 ⟨rfl,h1,L⟩;have T1:=H9 (T0.out.trans L (fun _ h _=>h));have R1:=H9 h1;clear L h1 T0;go_wp2_with fail
   refine(HW.o _ R1.out).mono ?_;rintro e w2 ⟨C,t2⟩;unfold gave at C;subst C;have T2:=H9 (T1.out.trans t2 (fun _ h _=>h));clear t2;go_wp2;exact⟨rfl,BR.no HM.o T2.out⟩
 | inr x =>
   obtain⟨wo,i1⟩:=x;rw[hm] at HW a;simp only[] at a;have HM:=H9 a;clear a hm;go_enter func213,ntmps213;go_wp2_with fail
   refine HB.o.mono ?_;rintro e w1 ⟨rfl,h1,L⟩;have T1:=H9 (T0.out.trans L (fun _ h _=>h));have R1:=H9 h1;have S1:=H9 (L.row R0.out (fun e=>by unfold only at e;omega));clear L h1 T0 HB R0;go_wp2_with fail
   refine(HW.o _ R1.out).mono ?_;rintro e w2 ⟨rfl,hi1,h2,t2⟩;simp only[] at hi1 h2;have T2:=H9 (T1.out.trans t2 (fun _ h _=>h));have S2:=H9 (t2.row S1.out (fun e=>by unfold only at e;omega));have HA2:=H9 (rX.start S2.out h2 T2.out hlt ⟨wo.toArray⟩);clear t2 h2 T1 S1 S2 T2 HW R1;have hwo:(⟨wo.toArray⟩:av).data.toList=wo:=rfl;have HWo:=H9 hwo;clear hwo;generalize (⟨wo.toArray⟩:av)=wb at *;go_wp2_with fail
   refine(sP s i1 g _ HA2.o.rd (by omega) hi1).mono ?_;rintro e w3 ⟨rfl,h3,t3⟩;have Jg:=H9 (HA2.o.feed h3 t3);clear h3 t3 HA2;go_wp2;go_loopw [] (fun wr=>∃(i f:Nat) (d:ak) (N:aj) (k:Nat),i<=s.size∧rX w g w2.heap.size s (Pm.blanks s.data.toList i) wb d N k wr∧s.size<f+i∧d.length<=8∧Pm.Ew s.data.toList 0=Pm.fin f wo (s.data.toList.drop i) (mh d)) (fun wr=>s.size-yh wr g)
   case atStart=>exact⟨i1,s.size+1,[],U,0,hi1,Jg.o,by omega,by simp,by have:=HM.o;rw[HL.o] at this;exact this⟩
   case round =>
    clear Jg HM hi1;obtain⟨i,f,d,N,k,hi,hA,hf,h8,a⟩:=hrel;obtain⟨f',rfl⟩:∃f',f=f'+1:=⟨f-1,by omega⟩;rw[Pm.fin_at s.data.toList f' i _ _ (by rw[HL.o];exact hi),HL.o] at a;have hb1:=Pm.xA s.data.toList i (by rw[HL.o];exact hi);have hb2:=Pm.GR s.data.toList i;rw[HL.o] at hb1;generalize Pm.blanks s.data.toList i=b at *;have HA:=H9 hA;have HAt:=H9 hA.rd.yh;have HM:=H9 a;have D:=H9 (rV s b g wr hA.rd);clear a hA;by_cases O:b=s.size
    . subst O;have L:decide (s.size<s.size)=F:=by rw[bP];omega
      rw[L] at D;have P:Hid (Pm.Ew s.data.toList 0=.inr (wo,mh d)):=by have:=HM.o;rw[if_pos rfl] at this;exact this
      clear HM L;go_wp2_with fail
      refine D.o.mono ?_;rintro e w4 ⟨rfl,q,hw⟩;have l:Hid (rX w g w2.heap.size s s.size wb d N k w4):=by rw[hw];exact HA.o.keep (iT ⟨q,rfl⟩)
      clear hw HA D;obtain⟨c0,c1,f0,f1,d0,d1,g0,g1⟩:=l.o.cells;have HT:=H9 (l.o.told (V wb) (Z N d.length k));go_wp2;refine gq (v:=.agg #[V wb,Z N d.length k]) (by simp[results,results213,go_sem,c0,c1]) rfl ?_;rw[P.o];exact⟨wb,d,N,k,rfl,HWo.o,rfl,HT.o.1,HT.o.2⟩
    . have hlt1:b<s.size:=by omega
      have L:decide (b<s.size)=true:=by rw[bQ];omega
      rw[L] at D;have a:=HM.o;rw[if_neg O] at a;clear HM L O;go_wp2_with fail
      refine D.o.mono ?_;rintro e w4 ⟨rfl,q,hw⟩;have l:Hid (rX w g w2.heap.size s b wb d N k w4):=by rw[hw];exact HA.o.keep (iT ⟨q,rfl⟩)
      clear hw HA D;by_cases G:s.data.toList[b]? = M 59
      . have t:=Pm.aaJ s.data.toList b;rw[if_pos G] at t;have z:=fun p r'=>Pm.Si (r:=s.data.toList.drop b) (r':=r') (p:=p);rw[t] at a z;have H59:=H9 G;have HSh:=H9 z;have hb3:=Pm.xA s.data.toList (b+1) (by rw[HL.o];omega);rw[HL.o] at hb3;clear t G z;go_wp2_with fail
        refine(wL s b g 59 _ l.o.rd (by omega) H59.o).mono ?_;rintro e w5 ⟨rfl,h5,t5⟩;have HA5:=H9 (l.o.feed h5 t5);clear h5 t5 l;go_wp2_with fail
        refine(sP s (b+1) g _ HA5.o.rd (by omega) (by omega)).mono ?_;rintro e w6 ⟨rfl,h6,t6⟩;have HA6:=H9 (HA5.o.feed h6 t6);clear h6 t6 HA5;generalize Pm.blanks s.data.toList (b+1)=i2 at *;have HP:=H9 (N8 s i2 g w6 HA6.o.rd hs hb3);cases hp:Pm.N7 s.data.toList i2 with
        | inl c =>
          rw[hp] at a HP;have P:=H9 a;clear a hp HSh;go_wp2_with fail
          refine HP.o.mono ?_;rintro e w7 ⟨C,t7⟩;unfold gave at C;subst C;have T7:=H9 (HA6.o.turns.trans t7 (fun _ h _=>h));clear t7;go_wp2;exact⟨rfl,BR.no P.o T7.out⟩
        | inr y =>
          obtain⟨⟨n,v⟩,r⟩:=y;rw[hp] at a HP;simp only[] at a;have z:=HSh.o _ _ hp;rw[bU,HL.o] at z;clear hp HSh;go_wp2_with fail
          refine HP.o.mono ?_;rintro e w7 ⟨rfl,⟨j,hj,h7,hd⟩,t7⟩;simp only[] at hd;subst hd;rw[bU,HL.o] at z;have hjb:b<j:=by omega
          have HA7:=H9 (HA6.o.feed h7 t7);clear t7 h7 z HA6 HP;have hnb:(⟨n.toArray⟩:av).data.toList=n:=rfl;have hvb:(⟨v.toArray⟩:av).data.toList=v:=rfl;generalize (⟨n.toArray⟩:av)=nb at *;generalize (⟨v.toArray⟩:av)=T at *;subst hnb;subst hvb;have hBp:Below w7.heap.size w7 (w7.alloc (K #[V nb,V T] 202)):=(fI _ _).alloc (aL _) _;have m:=H9 (HA7.o.keep hBp);have HPb:Hid ((w7.alloc (K #[V nb,V T] 202)).heap[w7.heap.size]? = M (K #[V nb,V T] 202 (0,0))):=fH w7 _;clear hBp HA7;obtain⟨c0,c1,f0,f1,d0,d1,g0,g1⟩:=m.o.cells;by_cases h9:((mh d).any fun q=>q.1==nb.data.toList)=true
          . rw[if_pos h9] at a;have P:=H9 a;have HY:=H9 (Sj h9);clear h9 a;go_wp2_with fail
            refine(Ls d nb T N k d.length _ m.o.own.nP rfl h8 HY.o).mono ?_;rintro e w9 ⟨C,b9⟩;unfold gave at C;subst C;have T9:=H9 (m.o.keep b9).turns;clear b9;go_wp2;exact⟨rfl,BR.no P.o T9.out⟩
          . rw[if_neg h9] at a;have sG:=H9 (Oc h9);clear h9;by_cases H:(mh d).length=8
            . rw[if_pos H] at a;have P:=H9 a;rw[sS] at H;have H8:=H9 H;clear a H;go_wp2_with fail
              refine(Oa d nb T N k d.length _ m.o.own.nP rfl (by have:=H8.o;omega) (by omega) sG.o).mono ?_;rintro e w9 ⟨C,b9⟩;unfold gave at C;subst C;have T9:=H9 (m.o.keep b9).turns;clear b9;go_wp2;exact⟨rfl,BR.no P.o T9.out⟩
            . rw[if_neg H] at a;have P:=H9 a;rw[sS] at H;clear a;go_wp2_with fail
              refine(Wv d nb T N k d.length _ m.o.own.nP rfl (by omega) sG.o).mono ?_;rintro e w9 ⟨rfl,b9⟩;have B:=H9 (m.o.keep b9);have aeg:=H9 ((b9.block _ (aK.1 HPb.o).1).trans HPb.o);clear b9 m HPb c0 c1 f0 f1 d0 d1 g0 g1 sG;obtain⟨c0,c1,f0,f1,d0,d1,g0,g1⟩:=B.o.cells;have p0:w9.cell? ⟨w7.heap.size,0,U⟩=M (V nb):=fJ w9 _ 0 _ _ _ aeg.o;have p1:w9.cell? ⟨w7.heap.size,1,U⟩=M (V T):=fJ w9 _ 1 _ _ _ aeg.o;obtain⟨t0,hi0,hz0,hz1,hz2⟩:=info_parts N9;have Hi:=H9 hi0;have kJ:=H9 hz0;have kG:=H9 hz1;have kK:=H9 hz2
              clear hi0 hz0 hz1 hz2;go_wp2_with (at_builtin;refine gQ rfl (.tmp 27) (.tmp 29) 170 rfl w.heap.size 202 t0 (.agg #[V ⟨#[]⟩,V ⟨#[]⟩]) 2 32 underlying170 Hi.o kJ.o kG.o kK.o rfl (by decide) rfl (B.o.own.alloc _) rfl (jm.made _ _ 1 _ _) rfl (fun u hu=>by simp at hu;rcases hu with rfl | rfl <;> rfl) (by omega) (by omega) (by have:=B.o.turns.size;simp;omega) ?_;intro CB cap5 Zq Ez Lu _;have A8:=B.o.grows _ Lu;have hm5:=A8.row B.o.med (fun e=>e.2.2 rfl);have m1:Zq.cell? ⟨w2.heap.size,1,U⟩=M (Z N d.length k):=fJ Zq _ 1 _ _ _ hm5;have mf:Zq.frozen? ⟨w2.heap.size,1,U⟩=F:=fK Zq _ 1 _ _ hm5;have tF:=H9 Ez;have qX:=H9 A8;clear Ez Lu A8 hm5)
              have hO:=tF.o;rw[show gT d++(#[Value.string nb,Value.string T]).toList=gT (d++[(nb,T)]) by rw[qA];rfl] at hO;have abP:=H9 (B.o.uF (ps':=d++[(nb,T)]) (by rw[aV];exact hO) qX.o (d.length+1) (by rw[aV];rfl));clear hO tF qX B;refine(sP s j g _ abP.o.rd (by omega) hj).mono ?_;rintro e w11 ⟨rfl,h11,t11⟩;have aeh:=H9 (abP.o.feed h11 t11);have hge:=Pm.GR s.data.toList j;clear h11 t11 abP;go_wp2;go_roundw
              case rel=>exact⟨j,f',d++[(nb,T)],CB,cap5,hj,aeh.o,by omega,by rw[aV];simp;omega,by rw[P.o,Lp];rfl⟩
              case measure=>rw[aeh.o.rd.yh,HAt.o];omega
      . have t:=Pm.aaJ s.data.toList b;rw[if_neg G] at t;rw[t] at a;have P:=H9 a;have HN:=H9 (QC s b g 59 _ l.o.rd G);clear a t G;go_wp2_with fail
        refine HN.o.mono ?_;rintro e w5 ⟨C,t5⟩;unfold gave at C;subst C;have T5:=H9 (l.o.turns.trans t5 (fun _ h _=>h));clear t5;go_wp2;exact⟨rfl,BR.no P.o T5.out⟩
theorem CF (p:Addr)(x c:Int)(a:List PanicEntry)(w:X)(i:w.cell? p=M (I J x))(j:w.frozen? p=F):
 CallsD prog 245 #[Q (M p)] (.panicking ({ v:=.iface 282 (I J c),recovered:=F }::a)) w fun e d w' =>
  e=Y (.tuple #[])∧d=.panicking ({ v:=.iface 282 (I J c),recovered:=true }::a)∧w'=w.setCell p (I J c):=by
 refine callsD_of_wpS func245 rfl fun b k f=>?_;apply wpS_seq;apply wpS_region;simp[wpOpsS,go_sem,recoverD,f,ntmps245,Exit.thenS];change Code.wpS _ _ _ { tmps:=#[Q (M p),.iface 282 (I J c),.iface 282 (I J c),undef,undef,undef,undef],defers:=[] } _ _;refine wpS_of_wp ?_;have g:∀w:X,(Instr.typeAssert (.iface 282 (I J c)) 20 282 F).run prog w=.ok (I J c) w:=fun _=>by kernel_rfl
 go_wp2;simp[bodyPostS,results,results245]
theorem Od (p:Addr)(w:X):
 CallsD prog 245 #[Q (M p)] .returning w fun e b w'=>e=Y (.tuple #[])∧b=.returning∧w'=w:=by
 refine callsD_of_wpS func245 rfl fun a d c=>?_;apply wpS_seq;apply wpS_region;simp[wpOpsS,go_sem,recoverD,c,ntmps245,Exit.thenS];change Code.wpS _ _ _ { tmps:=#[Q (M p),.nilIface,.nilIface,undef,undef,undef,undef],defers:=[] } _ _;refine wpS_of_wp ?_;go_wp2;cases a;simp_all [bodyPostS,results,results245]
def both (g rb:Nat):Nat->Prop:=fun k=>k=g∨k=rb
def abQ (x:au×List Pm.tK)(base rb:Nat)(w':X):Prop :=
 ∃word ps ao cap,w'.heap[rb]? = M (K #[V word,Z ao ps.length cap] 172 (0,0))∧word.data.toList=x.1∧mh ps=x.2∧gU w' base 202 2 ao cap ps.length (gT ps)
theorem Sm (s:av)(g f:Nat)(w:X)(h:jd w g s 0)(i:s.size<=100000)(c:Nat)(a:Pm.Ew s.data.toList 0=.inl c):
 Calls prog 212 #[Q (M ⟨g,0,U⟩),Q (M ⟨f,0,U⟩)] w fun e w'=>e=gave c∧Turns (only g) w w':=by
 have b:=H9 (Ey s g w h i);rw[a] at b;clear a;go_enter func212,ntmps212;go_wp2_with fail
 refine b.o.mono ?_;rintro e k ⟨d,j⟩;unfold gave at d;subst d;go_wp2;exact⟨rfl,rfl,j⟩
theorem Oe (s:av)(g b:Nat)(w:X)(h:jd w g s 0)(q:w.heap[b]? = M (K #[V ⟨#[]⟩,Z U 0 0] 172 (0,0)))(C:s.size<=100000)(x:au×List Pm.tK)(y:Pm.Ew s.data.toList 0=.inr x):
 Calls prog 212 #[Q (M ⟨g,0,U⟩),Q (M ⟨b,0,U⟩)] w fun e w'=>e=Y (.tuple #[])∧abQ x w.heap.size b w'∧Turns (both g b) w w':=by
 have z:=H9 (Ey s g w h C);rw[y] at z;have r:b≠g:=by
  rintro rfl;unfold jd at h;rw[q] at h;injection h with h;injection h with _ h _;exact absurd h (by decide)
 have D:=H9 q;have G:b<w.heap.size:=(aK.1 q).1;clear y h q;go_enter func212,ntmps212;go_wp2_with fail
 refine z.o.mono ?_;rintro e c ⟨j,l,m,d,rfl,n,p,t,u⟩;have f:=H9 (u.row D.o (fun e=>r e));have T:c.cell? ⟨b,0,U⟩=M (V ⟨#[]⟩):=fJ c _ 0 _ _ _ f.o;have W:c.cell? ⟨b,1,U⟩=M (Z U 0 0):=fJ c _ 1 _ _ _ f.o;have f0:c.frozen? ⟨b,0,U⟩=F:=fK c _ 0 _ _ f.o;have f1:c.frozen? ⟨b,1,U⟩=F:=fK c _ 1 _ _ f.o;have v:Hid (Turns (fun i=>i=b) c ((c.setCell ⟨b,0,U⟩ (V j)).setCell ⟨b,1,U⟩ (Z m l.length d))) :=
  Turns.trans (S:=fun i=>i=b) (Turns.setCell (fun i=>i=b) c ⟨b,0,U⟩ (V j) rfl) (Turns.setCell (fun i=>i=b) _ _ _ rfl) (fun _ h _=>h)
 have H:Hid (((c.setCell ⟨b,0,U⟩ (V j)).setCell ⟨b,1,U⟩ (Z m l.length d)).heap[b]? = M (K #[V j,Z m l.length d] 172 (0,0))):=by
  have L:=fM c b 0 _ _ (V j) f.o;have N:=fM _ b 1 _ _ (Z m l.length d) L;unfold Hid;rw[N];rfl
 have O:=H9 (t.turns v.o (fun a e e2=>by have:=(t.block a e).1;omega));have P:Hid (Turns (both g b) w ((c.setCell ⟨b,0,U⟩ (V j)).setCell ⟨b,1,U⟩ (Z m l.length d))):=(u.mono (S':=both g b) (fun k e=>Or.inl e)).trans v.o (fun i e _=>Or.inr e);have B:Hid (j.data.toList=x.1∧mh l=x.2):=⟨n,p⟩;clear n p t u f v;go_wp2;go_end0
 exact⟨rfl,⟨j,l,m,d,H.o,B.o.1,B.o.2,O.o⟩,P.out⟩
theorem Sn (s:av)(g m:Nat)(w:X)(h:jd w g s 0)(x:s.size<=100000)(c:Nat)(n:Pm.Ew s.data.toList 0=.inl c):
 Calls prog 211 #[.func (.func 212) #[] #[Q (M ⟨g,0,U⟩),Q (M ⟨m,0,U⟩)]] w fun e w'=>e=Y (I J (c:Int))∧Turns (only g) w w':=by
 have H:∀(p:Fn) (first b:Array Value) (w:X),(Instr.makeFunc p first b).run prog w=.ok (.func p first b) w:=fun _ _ _ _=>rfl;have y:=h.lt;have d:Below w.heap.size w (w.alloc (K #[I J 0] 3)):=(fI _ _).alloc (aL _) _;have q:Hid ((w.alloc (K #[I J 0] 3)).heap[w.heap.size]? = M (K #[I J 0] 3 (0,0))):=fH w _;have z:=H9 (Sm s g m _ (h.keep d) x c n);have r:=H9 (Turns.of_below (S:=only g) d);clear n h d;go_enter_defers func211,ntmps211
 go_wp2_with fail
 refine z.o.mono ?_;rintro e a ⟨t,j⟩;unfold gave at t;subst t;have l:=H9 (j.row q.out (fun e=>by unfold only at e;omega));have u:=H9 (r.out.trans j (fun _ h _=>h));have v:a.cell? ⟨w.heap.size,0,U⟩=M (I J 0):=fJ a _ 0 _ _ _ l.out;have B:a.frozen? ⟨w.heap.size,0,U⟩=F:=fK a _ 0 _ _ l.out;have C:Hid (Turns (only g) w (a.setCell ⟨w.heap.size,0,U⟩ (I J c))):=u.out.trans (Turns.setCell (fun k=>k=w.heap.size) _ _ _ rfl) (fun i e L=>by omega);have D:(a.setCell ⟨w.heap.size,0,U⟩ (I J c)).cell? ⟨w.heap.size,0,U⟩=M (I J c):=fO a _ _ v;clear j q l r u;go_wp2;refine leaves_cons (f:=245) (args:=#[Q (M ⟨w.heap.size,0,U⟩)]) (by simp) (by simp[go_sem]) ?_;refine(CF ⟨w.heap.size,0,U⟩ 0 c [] _ v B).mono ?_;rintro e N G ⟨rfl,rfl,rfl⟩;simp[Leaves,settle,results,results211,go_sem,D];exact C.out
theorem Og (s:av)(g b:Nat)(w:X)(h:jd w g s 0)(p:w.heap[b]? = M (K #[V ⟨#[]⟩,Z U 0 0] 172 (0,0)))(L:s.size<=100000)(x:au×List Pm.tK)(v:Pm.Ew s.data.toList 0=.inr x):
 Calls prog 211 #[.func (.func 212) #[] #[Q (M ⟨g,0,U⟩),Q (M ⟨b,0,U⟩)]] w fun e w'=>e=Y (I J 0)∧abQ x w.heap.size b w'∧Turns (both g b) w w':=by
 have UK:∀(y:Fn) (first c:Array Value) (w:X),(Instr.makeFunc y first c).run prog w=.ok (.func y first c) w:=fun _ _ _ _=>rfl;have N:=h.lt;have q:b<w.heap.size:=(aK.1 p).1;have m:Below w.heap.size w (w.alloc (K #[I J 0] 3)):=(fI _ _).alloc (aL _) _;have z:Hid ((w.alloc (K #[I J 0] 3)).heap[w.heap.size]? = M (K #[I J 0] 3 (0,0))):=fH w _;have B:=H9 (Oe s g b _ (h.keep m) ((m.block b q).trans p) L x v);have C:=H9 (Turns.of_below (S:=both g b) m);have D:(w.alloc (K #[I J 0] 3)).heap.size=w.heap.size+1:=by simp
 rw[D] at B;clear v h m p D;go_enter_defers func211,ntmps211
 go_wp2_with fail
 refine B.o.mono ?_;rintro e d ⟨rfl,⟨O,P,T,c,G,j,l,r⟩,t⟩;have u:=H9 (t.row z.out (fun e=>by unfold both at e;omega));have H:=H9 (C.out.trans t (fun _ h _=>h));have W:d.cell? ⟨w.heap.size,0,U⟩=M (I J 0):=fJ d _ 0 _ _ _ u.out;have f0:d.frozen? ⟨w.heap.size,0,U⟩=F:=fK d _ 0 _ _ u.out;have n:=Turns.setCell (fun k=>k=w.heap.size) d ⟨w.heap.size,0,U⟩ (I J 0) rfl;have T2:Hid (Turns (both g b) w (d.setCell ⟨w.heap.size,0,U⟩ (I J 0))):=H.out.trans n (fun i e hi=>by omega);have HI:Hid (abQ x w.heap.size b (d.setCell ⟨w.heap.size,0,U⟩ (I J 0))) :=
  ⟨O,P,T,c,n.row G (by omega),j,l,(r.turns n (fun a e e2=>by have:=(r.block a e).1;omega)).mono (by omega)⟩
 have c2:(d.setCell ⟨w.heap.size,0,U⟩ (I J 0)).cell? ⟨w.heap.size,0,U⟩=M (I J 0):=fO d _ _ W;clear t z u C H n G j l r;go_wp2;refine leaves_cons (f:=245) (args:=#[Q (M ⟨w.heap.size,0,U⟩)]) (by simp) (by simp[go_sem]) ?_;refine(Od ⟨w.heap.size,0,U⟩ _).mono ?_;rintro e u' w'' ⟨rfl,rfl,rfl⟩;simp[Leaves,settle,results,results211,go_sem,c2];exact⟨HI.o,T2.out⟩
end Go.Proofs.YtjmndjmhjleabaaGreatDoor