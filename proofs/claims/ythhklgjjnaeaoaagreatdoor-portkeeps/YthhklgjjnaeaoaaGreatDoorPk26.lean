/- Small texts, one behind the other: PmRdD, PmRdE, PmFnd, PmFind, PmMedia, PmMedB, PmCaught. -/
import Derived.Test.YthhklgjjnaeaoaaGreatDoorPk23
import Derived.Test.YthhklgjjnaeaoaaGreatDoorPk20
open Go.Value renaming int->I,string->V,slice->Z,pointer->Q
open Go.IntKind renaming i64->J
open Go.Obj renaming cells->K
open Go.Ending renaming returned->Y
open Option renaming none->U,some->M
open Bool renaming false->F
open Go renaming World->X
set_option maxHeartbeats 3200000
set_option maxRecDepth 100000
open Go.Proofs.Tryz
namespace Go.Proofs.YthhklgjjnaeaoaaGreatDoor
open Go.RowKit
def Pm.Af (l:av)(i:Nat):Nat ⊕ (av×Nat) :=
 if Pm.word l i=0 then .inl 5
 else if l[i+Pm.word l i]? = M 47 then
  (if Pm.word l (i + Pm.word l i + 1) = 0 then .inl 5
   else .inr (Ch.lower ((l.drop i).take (Pm.word l i))++[47]++Ch.lower ((l.drop (i+Pm.word l i+1)).take (Pm.word l (i+Pm.word l i+1))),i+Pm.word l i+1+Pm.word l (i+Pm.word l i+1)))
 else .inr (Ch.lower ((l.drop i).take (Pm.word l i)),i+Pm.word l i)
def abx (m:Nat ⊕ (av×Nat))(w:X)(g:Nat)(s:ay)(e:Ending)(w':X):Prop:=match m with
 | .inl c=>e=gave c∧Turns (only g) w w'
 | .inr x=>e=Y (V ⟨x.1.toArray⟩)∧x.2<=s.size∧iR w' g s x.2∧Turns (only g) w w'
theorem qd (s:ay)(i n:Nat):(s.extract i (i+n)).data.toList=(s.data.toList.drop i).take n:=by
 rw[Lib.extract_data];simp
theorem KP (a b:av):Ch.lower (a++(47::b))=Ch.lower a++[47]++Ch.lower b:=by
 have:Ch.BN 47=47:=by decide
 simp[Ch.lower,this]
theorem R5 (s:ay)(i g:Nat)(w:X)(h:iR w g s i)(f:s.size<=1000000)(z:i<=s.size):
 Calls prog 293 #[Q (M ⟨g,0,U⟩)] w fun e w'=>abx (Pm.Af s.data.toList i) w g s e w':=by
 have k:s.data.toList.length=s.size:=by rw[aO];rfl
 have T:=Pm.yJ s.data.toList i (by rw[k];exact z);rw[k] at T;by_cases j:Pm.word s.data.toList i=0
 . have c:Hid (Pm.Af s.data.toList i=.inl 5):=by unfold Hid Pm.Af;rw[if_pos j]
   go_enter func293,ntmps293;go_wp2_with fail
   refine(zx s i g w h f z j).mono ?_;rintro e B ⟨l,d⟩;unfold gave at l;subst l;go_wp2;refine⟨rfl,?_⟩;rw[c.o];exact⟨rfl,d⟩
 . have C:=H9 (wW s i g w h f z j);have hx:=qd s i (Pm.word s.data.toList i);have hxz:(s.extract i (i+Pm.word s.data.toList i)).size<=s.size:=by simp;omega
   by_cases a:s.data.toList[i+Pm.word s.data.toList i]? = M 47
   . have hlt:i+Pm.word s.data.toList i<s.size:=by
      have:=(aQ.1 a).1;rwa[k] at this
     have p:=Pm.yJ s.data.toList (i+Pm.word s.data.toList i+1) (by rw[k];omega);rw[k] at p;by_cases b:Pm.word s.data.toList (i+Pm.word s.data.toList i+1)=0
     . have c:Hid (Pm.Af s.data.toList i=.inl 5):=by unfold Hid Pm.Af;rw[if_neg j,if_pos a,if_pos b]
       have H1:=H9 b;generalize Pm.word s.data.toList i=n at *;generalize s.extract i (i+n)=x at *;go_enter func293,ntmps293;go_wp2_with fail
       refine C.o.mono ?_;rintro e w1 ⟨rfl,b,q⟩;go_wp2_with fail
       refine(vT s _ g 47 _ b f a).mono ?_;rintro e B ⟨rfl,d,r⟩;have t:=q.trans r (fun _ h _=>h);go_wp2_with fail
       refine(zx s _ g _ d f (by omega) H1.o).mono ?_;rintro e w3 ⟨l,D⟩;unfold gave at l;subst l;have G:=t.trans D (fun _ h _=>h);go_wp2;refine⟨rfl,?_⟩;rw[c.o];exact⟨rfl,G⟩
     . have hy:=qd s (i+Pm.word s.data.toList i+1) (Pm.word s.data.toList (i+Pm.word s.data.toList i+1));have hyz:(s.extract (i+Pm.word s.data.toList i+1) (i+Pm.word s.data.toList i+1+Pm.word s.data.toList (i+Pm.word s.data.toList i+1))).size<=s.size:=by simp;omega
       have c:Hid (Pm.Af s.data.toList i=.inr (Ch.lower (s.extract i (i+Pm.word s.data.toList i)).data.toList++[47]++Ch.lower (s.extract (i+Pm.word s.data.toList i+1) (i+Pm.word s.data.toList i+1+Pm.word s.data.toList (i+Pm.word s.data.toList i+1))).data.toList,i+Pm.word s.data.toList i+1+Pm.word s.data.toList (i+Pm.word s.data.toList i+1))):=by
        unfold Hid Pm.Af;rw[if_neg j,if_pos a,if_neg b,hx,hy]
       have HK:=fun W (H:iR W g s (i+Pm.word s.data.toList i+1))=>wW s (i+Pm.word s.data.toList i+1) g W H f (by omega) b;generalize Pm.word s.data.toList i=n at *;generalize Pm.word s.data.toList (i+n+1)=m at *;generalize s.extract i (i+n)=x at *;generalize s.extract (i+n+1) (i+n+1+m)=y at *;have hz:(x++(⟨#[47]⟩++y)).size<=maxLen:=by
        rw[bL,bL];show x.size+(1+y.size)<=maxLen;unfold maxLen;omega
       have v:=fun W=>oF (x++(⟨#[47]⟩++y)) W hz;have L:(x++(⟨#[47]⟩++y)).data.toList=x.data.toList++(47::y.data.toList):=by rw[Ch.data_append,Ch.data_append];rfl
       rw[L,KP] at v;generalize Ch.lower x.data.toList++[47]++Ch.lower y.data.toList=lo at *;go_enter func293,ntmps293;go_wp2_with fail
       refine C.o.mono ?_;rintro e w1 ⟨rfl,b,q⟩;go_wp2_with fail
       refine(vT s _ g 47 _ b f a).mono ?_;rintro e B ⟨rfl,d,r⟩;have t:=q.trans r (fun _ h _=>h);go_wp2_with fail
       refine(HK _ d).mono ?_;rintro e w3 ⟨rfl,h3,D⟩;have G:=t.trans D (fun _ h _=>h);generalize hX:x++(⟨#[47]⟩++y)=xy at *;go_wp2_with fail
       refine(v _).mono ?_;rintro e w4 ⟨rfl,u⟩;have N:=G.trans (S':=only g) (Turns.of_below u) (fun _ h _=>h);have S:=h3.keep u;go_wp2;go_ret;rw[c.o];exact⟨rfl,p,S,N⟩
   . have c:Hid (Pm.Af s.data.toList i=.inr (Ch.lower (s.extract i (i+Pm.word s.data.toList i)).data.toList,i+Pm.word s.data.toList i)):=by
      unfold Hid Pm.Af;rw[if_neg j,if_neg a,hx]
     have HN:=fun W (H:iR W g s (i+Pm.word s.data.toList i))=>IK s (i+Pm.word s.data.toList i) g 47 W H a;generalize Pm.word s.data.toList i=n at *;generalize s.extract i (i+n)=x at *;have v:=fun W=>oF x W (by unfold maxLen;omega);generalize Ch.lower x.data.toList=lo at *;go_enter func293,ntmps293;go_wp2_with fail
     refine C.o.mono ?_;rintro e w1 ⟨rfl,b,q⟩;go_wp2_with fail
     refine(HN _ b).mono ?_;rintro e B ⟨rfl,d,r⟩;have t:=q.trans r (fun _ h _=>h);go_wp2_with fail
     refine(v _).mono ?_;rintro e w4 ⟨rfl,u⟩;have N:=t.trans (S':=only g) (Turns.of_below u) (fun _ h _=>h);have S:=d.keep u;go_wp2;go_ret;rw[c.o];exact⟨rfl,T,S,N⟩
def Pm.Ny (l:av)(i:Nat):Nat ⊕ (Pm.rT×av) :=
 if Pm.word l i=0 then .inl 5
 else if l[i+Pm.word l i]? = M 61 then (match Pm.val (l.drop (i+Pm.word l i+1)) with
  | .inl c=>.inl c
  | .inr x=>.inr ((Ch.lower ((l.drop i).take (Pm.word l i)),x.1),x.2))
 else .inl 5
theorem Pm.aal (l:av)(i:Nat):Pm.par (l.drop i)=if l[i]? = M 59 then Pm.Ny l (Pm.blanks l (i+1)) else .inl 5:=by
 rw[Pm.aa9];rfl
def qM (m:Nat ⊕ (Pm.rT×av))(w:X)(g:Nat)(s:ay)(e:Ending)(w':X):Prop:=match m with
 | .inl c=>e=gave c∧Turns (only g) w w'
 | .inr x=>e=Y (.agg #[V ⟨x.1.1.toArray⟩,V ⟨x.1.2.toArray⟩])∧(∃j,j<=s.size∧iR w' g s j∧s.data.toList.drop j=x.2)∧Turns (only g) w w'
theorem qM.no {m:Nat ⊕ (Pm.rT×av)}{w w':X}{g:Nat}{s:ay}{c:Nat}(a:m=.inl c)(b:Turns (only g) w w'):qM m w g s (gave c) w':=by
 subst a;exact⟨rfl,b⟩
theorem qM.yes {m:Nat ⊕ (Pm.rT×av)}{w w':X}{g j:Nat}{s:ay}{n v r:av}(a:m=.inr ((n,v),r))(b:j<=s.size)(c:iR w' g s j)(hd:s.data.toList.drop j=r)(d:Turns (only g) w w'):qM m w g s (Y (.agg #[V ⟨n.toArray⟩,V ⟨v.toArray⟩])) w':=by
 subst a;exact⟨rfl,⟨j,b,c,hd⟩,d⟩
structure Ag (w:X)(g:Nat)(s:ay)(k:Nat)(W:X):Prop where
 res:W.heap[w.heap.size]? = M (K #[V ⟨#[]⟩,V ⟨#[]⟩] 240 (0,0))
 rd:iR W g s k
 turns:Turns (only g) w W
 lt:g<w.heap.size
section
variable {w W w1:X} {g k k':Nat} {s:ay}
theorem Ag.made (h:iR w g s k):Ag w g s k (w.alloc (K #[V ⟨#[]⟩,V ⟨#[]⟩] 240)) :=
 ⟨eX w _,h.keep ((eY _ _).alloc (aM _) _),Turns.of_below ((eY _ _).alloc (aM _) _),h.lt⟩
theorem Ag.feed (h:Ag w g s k W)(b:iR w1 g s k')(a:Turns (only g) W w1):Ag w g s k' w1 :=
 ⟨a.row h.res (fun e=>by have:=h.lt;unfold only at e;omega),b,h.turns.trans a (fun _ h _=>h),h.lt⟩
theorem Ag.keep (h:Ag w g s k W)(a:Below W.heap.size W w1):Ag w g s k w1:=h.feed (h.rd.keep a) (Turns.of_below a)
theorem Ag.cells (h:Ag w g s k W):W.cell? ⟨w.heap.size,0,U⟩=M (V ⟨#[]⟩)∧W.cell? ⟨w.heap.size,1,U⟩=M (V ⟨#[]⟩)∧W.frozen? ⟨w.heap.size,0,U⟩=F∧W.frozen? ⟨w.heap.size,1,U⟩=F :=
 ⟨eZ W _ 0 _ _ _ h.res,eZ W _ 1 _ _ _ h.res,fq W _ 0 _ _ h.res,fq W _ 1 _ _ h.res⟩
theorem Ag.told (h:Ag w g s k W)(a b:Value):iR ((W.setCell ⟨w.heap.size,0,U⟩ a).setCell ⟨w.heap.size,1,U⟩ b) g s k∧Turns (only g) w ((W.setCell ⟨w.heap.size,0,U⟩ a).setCell ⟨w.heap.size,1,U⟩ b):=by
 have c:Turns (fun i=>i=w.heap.size) W ((W.setCell ⟨w.heap.size,0,U⟩ a).setCell ⟨w.heap.size,1,U⟩ b) :=
  Turns.trans (S:=fun i=>i=w.heap.size) (Turns.setCell (fun i=>i=w.heap.size) W ⟨w.heap.size,0,U⟩ a rfl) (Turns.setCell (fun i=>i=w.heap.size) _ _ _ rfl) (fun _ h _=>h)
 have:=h.lt;exact⟨h.rd.turns c (by omega),h.turns.trans c (fun i e d=>by omega)⟩
end
theorem Nz (s:ay)(i g:Nat)(w:X)(h:iR w g s i)(hs:s.size<=100000)(hi:i<=s.size):
 Calls prog 296 #[Q (M ⟨g,0,U⟩)] w fun e w'=>qM (Pm.Ny s.data.toList i) w g s e w':=by
 have C:s.data.toList.length=s.size:=by rw[aO];rfl
 have hw:=Pm.yJ s.data.toList i (by rw[C];exact hi);rw[C] at hw;have u:=H9 (Ag.made h);clear h;by_cases h0:Pm.word s.data.toList i=0
 . have D:Hid (Pm.Ny s.data.toList i=.inl 5):=by unfold Hid Pm.Ny;rw[if_pos h0]
   have B:=H9 (zx s i g _ u.o.rd (by omega) hi h0);clear h0 hw C;go_enter func296,ntmps296;go_wp2_with fail
   refine B.o.mono ?_;rintro e w2 ⟨k,t2⟩;unfold gave at k;subst k;have T2:=H9 (u.o.turns.trans t2 (fun _ h _=>h));clear t2;go_wp2;exact⟨rfl,qM.no D.o T2.out⟩
 . have B:=H9 (wW s i g _ u.o.rd (by omega) hi h0);have hx:=qd s i (Pm.word s.data.toList i);have hxz:(s.extract i (i+Pm.word s.data.toList i)).size<=s.size:=by simp;omega
   have d:Pm.Ny s.data.toList i=if s.data.toList[i+Pm.word s.data.toList i]? = M 61 then (match Pm.val (s.data.toList.drop (i+Pm.word s.data.toList i+1)) with
    | .inl c=>.inl c
    | .inr x=>.inr ((Ch.lower (s.extract i (i+Pm.word s.data.toList i)).data.toList,x.1),x.2)) else .inl 5:=by
    unfold Pm.Ny;rw[if_neg h0,hx]
   clear hx h0;generalize Pm.word s.data.toList i=n at *;generalize s.extract i (i+n)=x at *;have L:=H9 (fun W=>oF x W (by unfold maxLen;omega));generalize Ch.lower x.data.toList=nm at *;by_cases l:s.data.toList[i+n]? = M 61
   . rw[if_pos l] at d;have hlt:i+n<s.size:=by
      have:=(aQ.1 l).1;rwa[C] at this
     have N:=H9 l;rw[Pm.aa8] at d;have hw2:=Pm.yJ s.data.toList (i+n+1) (by rw[C];omega);rw[C] at hw2;clear l;by_cases ME:s.data.toList[i+n+1]? = M 34
     . rw[if_pos ME] at d;have hlt2:i+n+1<s.size:=by
        have:=(aQ.1 ME).1;rwa[C] at this
       have G:=H9 ME;have HQ:=H9 (fun W (S:iR W g s (i+n+1+1))=>Nw s (i+n+1+1) g W S (by omega) (by omega));clear ME C;cases hq:Pm.quo [] (s.data.toList.drop (i+n+1+1)) with
       | none =>
         rw[hq] at HQ d;have D:=H9 d;clear d hq;go_enter func296,ntmps296;go_wp2_with fail
         refine B.o.mono ?_;rintro e w1 ⟨rfl,a,b⟩;have q:=H9 (u.o.feed a b);clear a b B u;go_wp2_with fail
         refine(L.o _).mono ?_;rintro e w2 ⟨rfl,t⟩;have f:=H9 (q.out.keep t);clear t q L;go_wp2_with fail
         refine(vU s _ g 61 _ f.out.rd (by omega) N.o).mono ?_;rintro e w3 ⟨rfl,a,b⟩;have p:=H9 (f.out.feed a b);clear a b f;go_wp2_with fail
         refine(vT s _ g 34 _ p.out.rd (by omega) G.o).mono ?_;rintro e w4 ⟨rfl,a,b⟩;have z:=H9 (p.out.feed a b);clear a b p;go_wp2_with fail
         refine(HQ.o _ z.out.rd).mono ?_;rintro e w5 ⟨T,k⟩;simp only[] at k;unfold gave at k;subst k;have T5:=H9 (z.out.turns.trans T (fun _ h _=>h));clear T;go_wp2;exact⟨rfl,qM.no D.o T5.out⟩
       | some y =>
         obtain⟨v,r⟩:=y;rw[hq] at HQ d;have D:=H9 d;clear d hq;go_enter func296,ntmps296;go_wp2_with fail
         refine B.o.mono ?_;rintro e w1 ⟨rfl,a,b⟩;have q:=H9 (u.o.feed a b);clear a b B u;go_wp2_with fail
         refine(L.o _).mono ?_;rintro e w2 ⟨rfl,t⟩;have f:=H9 (q.out.keep t);clear t q L;go_wp2_with fail
         refine(vU s _ g 61 _ f.out.rd (by omega) N.o).mono ?_;rintro e w3 ⟨rfl,a,b⟩;have p:=H9 (f.out.feed a b);clear a b f;go_wp2_with fail
         refine(vT s _ g 34 _ p.out.rd (by omega) G.o).mono ?_;rintro e w4 ⟨rfl,a,b⟩;have z:=H9 (p.out.feed a b);clear a b p;go_wp2_with fail
         refine(HQ.o _ z.out.rd).mono ?_;rintro e w5 ⟨T,k⟩;simp only[] at k;obtain⟨rfl,j,hj,h5,hd⟩:=k;have P5:=H9 (z.out.feed h5 T);have HD:=H9 hd;clear T h5 hd z;obtain⟨c0,c1,f0,f1⟩:=P5.out.cells;have H:=H9 (P5.out.told (V ⟨nm.toArray⟩) (V ⟨v.toArray⟩));go_wp2;refine fI (v:=.agg #[V ⟨nm.toArray⟩,V ⟨v.toArray⟩]) (by simp[results,results296,go_sem,c0,c1]) rfl ?_;exact qM.yes D.o hj H.o.1 HD.o H.o.2
     . rw[if_neg ME] at d;have G:=H9 (fun W (S:iR W g s (i+n+1))=>IK s (i+n+1) g 34 W S ME);clear ME;by_cases a:Pm.word s.data.toList (i+n+1)=0
       . rw[if_pos a] at d;have HK:=H9 (fun W (S:iR W g s (i+n+1))=>zx s (i+n+1) g W S (by omega) (by omega) a);have D:=H9 d;clear d a C;go_enter func296,ntmps296;go_wp2_with fail
         refine B.o.mono ?_;rintro e w1 ⟨rfl,a,b⟩;have q:=H9 (u.o.feed a b);clear a b B u;go_wp2_with fail
         refine(L.o _).mono ?_;rintro e w2 ⟨rfl,t⟩;have f:=H9 (q.out.keep t);clear t q L;go_wp2_with fail
         refine(vU s _ g 61 _ f.out.rd (by omega) N.o).mono ?_;rintro e w3 ⟨rfl,a,b⟩;have p:=H9 (f.out.feed a b);clear a b f;go_wp2_with fail
         refine(G.o _ p.out.rd).mono ?_;rintro e w4 ⟨rfl,a,b⟩;have z:=H9 (p.out.feed a b);clear a b p;go_wp2_with fail
         refine(HK.o _ z.out.rd).mono ?_;rintro e w5 ⟨k,T⟩;unfold gave at k;subst k;have T5:=H9 (z.out.turns.trans T (fun _ h _=>h));clear T;go_wp2;exact⟨rfl,qM.no D.o T5.out⟩
       . have hy:=qd s (i+n+1) (Pm.word s.data.toList (i+n+1));have hyz:(s.extract (i+n+1) (i+n+1+Pm.word s.data.toList (i+n+1))).size<=s.size:=by simp;omega
         rw[if_neg a,<-hy] at d;have HK:=H9 (fun W (S:iR W g s (i+n+1))=>wW s (i+n+1) g W S (by omega) (by omega) a);have D:=H9 d;clear d a C hy;generalize Pm.word s.data.toList (i+n+1)=m at *;generalize s.extract (i+n+1) (i+n+1+m)=y at *;have uT:=H9 (fun W=>kW y W (by omega));have hye:(⟨y.data.toList.toArray⟩:ay)=y:=rfl;go_enter func296,ntmps296;go_wp2_with fail
         refine B.o.mono ?_;rintro e w1 ⟨rfl,a,b⟩;have q:=H9 (u.o.feed a b);clear a b B u;go_wp2_with fail
         refine(L.o _).mono ?_;rintro e w2 ⟨rfl,t⟩;have f:=H9 (q.out.keep t);clear t q L;go_wp2_with fail
         refine(vU s _ g 61 _ f.out.rd (by omega) N.o).mono ?_;rintro e w3 ⟨rfl,a,b⟩;have p:=H9 (f.out.feed a b);clear a b f;go_wp2_with fail
         refine(G.o _ p.out.rd).mono ?_;rintro e w4 ⟨rfl,a,b⟩;have z:=H9 (p.out.feed a b);clear a b p;go_wp2_with fail
         refine(HK.o _ z.out.rd).mono ?_;rintro e w5 ⟨rfl,a,b⟩;have P5:=H9 (z.out.feed a b);clear a b z;go_wp2_with fail
         refine(uT.o _).mono ?_;rintro e w6 ⟨rfl,b6⟩;have P6:=H9 (P5.out.keep b6);clear b6 P5;obtain⟨c0,c1,f0,f1⟩:=P6.out.cells;have H:=H9 (P6.out.told (V ⟨nm.toArray⟩) (V y));go_wp2;refine fI (v:=.agg #[V ⟨nm.toArray⟩,V y]) (by simp[results,results296,go_sem,c0,c1]) rfl ?_;exact qM.yes D.o (j:=i+n+1+m) hw2 H.o.1 rfl H.o.2
   . rw[if_neg l] at d;have D:=H9 d;have HN:=H9 (fun W (S:iR W g s (i+n))=>Qt s (i+n) g 61 W S l);clear d l C;go_enter func296,ntmps296;go_wp2_with fail
     refine B.o.mono ?_;rintro e w1 ⟨rfl,a,b⟩;have q:=H9 (u.o.feed a b);clear a b B u;go_wp2_with fail
     refine(L.o _).mono ?_;rintro e w2 ⟨rfl,t⟩;have f:=H9 (q.out.keep t);clear t q L;go_wp2_with fail
     refine(HN.o _ f.out.rd).mono ?_;rintro e w3 ⟨k,t3⟩;unfold gave at k;subst k;have T3:=H9 (f.out.turns.trans t3 (fun _ h _=>h));clear t3;go_wp2;exact⟨rfl,qM.no D.o T3.out⟩
def Qw (l:au)(nm:ay)(r:Int):Prop :=
 (r=-1∧∀p∈l,p.1.data.toList≠nm.data.toList)∨∃k,∃h:k<l.length,r=k∧l[k].1.data.toList=nm.data.toList∧∀p∈l.take k,p.1.data.toList≠nm.data.toList
theorem KR (n v a:ay)(b:Nat)(w:X)(d:w.cell? ⟨b,0,U⟩=M (V a)):
 Calls prog 310 #[.agg #[V n,V v],Q (M ⟨b,0,U⟩)] w fun e w'=>e=Y (.bool (decide (n.data.toList=a.data.toList)))∧w'=w.alloc (K #[V n,V v] 240):=by
 have c:=R6 n a;have f:=fH w _ d;have g:(w.alloc (K #[V n,V v] 240)).cell? ⟨b,0,U⟩=M (V a):=by
  rw[((eY w.heap.size w).alloc (aM _) _).cell (p:=⟨b,0,U⟩) f];exact d
 generalize decide (n.data.toList=a.data.toList)=t at c;go_enter func310,ntmps310;go_wp2;go_ret;exact⟨by rw[<-c];rfl,rfl⟩
theorem Fb (l:au)(d:ay)(ao:ak)(cap n b:Nat)(w:X)(y:ji w ao cap n (gG l))(D:l.length=n)(W:n<=1000000)(z:w.cell? ⟨b,0,U⟩=M (V d)):
 Calls prog 309 #[Z ao n cap,.func (.func 310) #[] #[Q (M ⟨b,0,U⟩)]] w fun e w'=>∃r:Int,e=Y (I J r)∧Qw l d r∧Below w.heap.size w w':=by
 subst D;have B:=y.1;have G:=fH w _ z;go_enter func309,ntmps309;go_wp2;go_loopw [8] (fun t wr=>∃k:Nat,k<=l.length∧t=I J k∧Below w.heap.size w wr∧∀p∈l.take k,p.1.data.toList≠d.data.toList) (fun t _=>l.length-(intOf t).toNat)
 case atStart=>exact⟨0,aA _,rfl,eY _ _,fun p u=>by simp at u⟩
 case round =>
  obtain⟨k,hk,rfl,j,f⟩:=hrel;by_cases a:k<l.length
  . obtain⟨H,L,rfl,m⟩:=(y.stay j).lit (by rw[mF];omega);have N:=m _ _ (mQ l k a).1;have S:wr.cell? ⟨H,L+k*2+1,U⟩=M (V l[k].2):=by
     have:=m _ _ (mQ l k a).2;rwa[<-bJ] at this
    have C:(k:Int)<l.length:=by omega
    have T:l.take (k+1)=l.take k++[l[k]]:=bM a;have q:=KR l[k].1 l[k].2 d b wr (by rw[j.cell (p:=⟨b,0,U⟩) G];exact z);have c:Below w.heap.size w (wr.alloc (K #[V l[k].1,V l[k].2] 240)):=j.alloc j.size _;by_cases s:l[k].1.data.toList=d.data.toList
    . rw[aI s] at q;have v:Qw l d k:=Or.inr ⟨k,a,rfl,s,f⟩;generalize l[k]=p at *;go_wp2_with fail
      refine q.mono ?_;rintro e x ⟨rfl,o⟩;have g:Below w.heap.size w x:=by rw[o];exact c
      clear o c;go_wp2;go_ret;exact⟨k,rfl,v,g⟩
    . rw[aJ s] at q;generalize l[k]=p at *;go_wp2_with fail
      refine q.mono ?_;rintro e x ⟨rfl,o⟩;have g:Below w.heap.size w x:=by rw[o];exact c
      clear o c;go_wp2;go_roundw
      case rel =>
       refine⟨k+1,by omega,by go_num,g,fun r i=>?_⟩;rw[T,bq] at i;rcases i with i | i
       . exact f r i
       . rw[bA] at i;subst i;exact s
      case measure=>simp[intOf];omega
  . obtain rfl:k=l.length:=by omega
    have v:Qw l d (-1):=Or.inl ⟨rfl,fun p u=>f p (by rw[bN];exact u)⟩;go_wp2;go_ret;exact⟨-1,rfl,v,j⟩
theorem wX (l:au)(a:ay)(ao:ak)(cap n:Nat)(w:X)(f:ji w ao cap n (gG l))(g:l.length=n)(i:n<=1000000):
 Calls prog 274 #[Z ao n cap,V a] w fun e w'=>∃r:Int,e=Y (I J r)∧Qw l a r∧Below w.heap.size w w':=by
 have c:Below w.heap.size w (w.alloc (K #[V a] 9)):=(eY _ _).alloc (aM _) _;have m:∀(d:Fn) (first cap:Array Value) (w:X),(Instr.makeFunc d first cap).run prog w=.ok (.func d first cap) w:=fun _ _ _ _=>rfl;go_enter func274,ntmps274;go_wp2_with fail
 refine(Fb l a ao cap n w.heap.size (w.alloc (K #[V a] 9)) (f.stay c) g i (World.cell?_alloc_mark w _ _ _ 0)).mono ?_;rintro e o ⟨r,rfl,j,k⟩;have b:=then_ c k;go_wp2;go_ret;exact⟨r,rfl,j,b⟩
theorem Wv (l:au)(a v:ay)(ao:ak)(cap n:Nat)(w:X)(f:ji w ao cap n (gG l))(g:l.length=n)(m:n<8)(b:∀p∈l,p.1.data.toList≠a.data.toList):
 Calls prog 297 #[.agg #[V a,V v],Z ao n cap] w fun e w'=>e=Y (.tuple #[])∧Below w.heap.size w w':=by
 have d:Below w.heap.size w (w.alloc (K #[V a,V v] 240)):=(eY _ _).alloc (aM _) _;have o:decide ((n:Int)≥8)=F:=by rw[bO];omega
 go_enter func297,ntmps297;go_wp2_with fail
 refine(wX l a ao cap n (w.alloc (K #[V a,V v] 240)) (f.stay d) g (by omega)).mono ?_;rintro e q ⟨r,rfl,i,j⟩;have c:=then_ d j;obtain rfl:r=-1:=by
  rcases i with ⟨e,_⟩ | ⟨k,h,_,e,_⟩
  . exact e
  . exact absurd e (b _ (aC h))
 go_wp2;go_end0
 exact⟨rfl,c⟩
theorem NC (l:au)(a v:ay)(ao:ak)(cap n:Nat)(w:X)(f:ji w ao cap n (gG l))(g:l.length=n)(o:8<=n)(i:n<=1000000)(b:∀p∈l,p.1.data.toList≠a.data.toList):
 Calls prog 297 #[.agg #[V a,V v],Z ao n cap] w fun e w'=>e=gave 8∧Below w.heap.size w w':=by
 have d:Below w.heap.size w (w.alloc (K #[V a,V v] 240)):=(eY _ _).alloc (aM _) _;have q:decide ((n:Int)≥8)=true:=by rw[bP];omega
 go_enter func297,ntmps297;go_wp2_with fail
 refine(wX l a ao cap n (w.alloc (K #[V a,V v] 240)) (f.stay d) g (by omega)).mono ?_;rintro e s ⟨r,rfl,j,m⟩;have c:=then_ d m;obtain rfl:r=-1:=by
  rcases j with ⟨e,_⟩ | ⟨k,h,_,e,_⟩
  . exact e
  . exact absurd e (b _ (aC h))
 go_wp2;exact⟨rfl,rfl,c⟩
theorem KS (l:au)(a v:ay)(ao:ak)(cap n:Nat)(w:X)(f:ji w ao cap n (gG l))(b:l.length=n)(q:n<=8)(g:∃p∈l,p.1.data.toList=a.data.toList):
 Calls prog 297 #[.agg #[V a,V v],Z ao n cap] w fun e w'=>e=gave 9∧Below w.heap.size w w':=by
 have d:Below w.heap.size w (w.alloc (K #[V a,V v] 240)):=(eY _ _).alloc (aM _) _;go_enter func297,ntmps297;go_wp2_with fail
 refine(wX l a ao cap n (w.alloc (K #[V a,V v] 240)) (f.stay d) b (by omega)).mono ?_;rintro e s ⟨r,rfl,i,j⟩;have c:=then_ d j;have m:0<=r:=by
  rcases i with ⟨_,b⟩ | ⟨k,h,rfl,_,_⟩
  . obtain⟨p,o,e⟩:=g;exact absurd e (b p o)
  . omega
 have t:decide (r≥0)=true:=by rw[bP];exact m
 go_wp2;exact⟨rfl,rfl,c⟩
theorem Pm.R7 {r v r':av}(h:Pm.val r=.inr (v,r')):r'.length<=r.length:=by
 unfold Pm.val at h;split at h
 . split at h
   . cases h
   . rename_i x a;injection h with h;subst h;have:=(Pm.FV _ _ _ _ _ (aM _) a).1;rw[bQ] at this;omega
 . split at h
   . cases h
   . injection h with h;injection h with _ b;subst b;exact(bR (l:=r) Pm.tok).length_le
theorem Pm.R8 {r r':av}{p:Pm.rT}(h:Pm.par r=.inr (p,r')):r'.length<r.length:=by
 unfold Pm.par at h;split at h
 . rename_i b;simp only[] at h;split at h
   . cases h
   . split at h
     . split at h
       . cases h
       . rename_i x c;injection h with h;injection h with _ d;subst d;have e:=Pm.R7 (v:=x.1) (r':=x.2) c;rw[bQ] at e;have g:=(bR (l:=r.tail.dropWhile Pm.blank) Pm.tok).length_le;have f:=(bR (l:=r.tail) Pm.blank).length_le;rw[bQ] at f;cases r with
         | nil=>simp at b
         | cons a t =>
           rw[aW] at *;omega
     . cases h
 . cases h
def Pm.D5 (l:av)(i:Nat):Nat ⊕ (av×List Pm.rT):=match Pm.Af l (Pm.blanks l i) with
 | .inl c=>.inl c
 | .inr x=>Pm.fin (l.length+1) x.1 (l.drop x.2) []
theorem Pm.Zj (l:av)(d:Ch.gV l=true):Pm.jL l=Pm.D5 l 0:=by
 rw[Pm.Vd l d _ _ rfl rfl];unfold Pm.D5 Pm.Af;by_cases b:Pm.word l (Pm.blanks l 0)=0
 . rw[if_pos b,if_pos b]
 . rw[if_neg b,if_neg b];by_cases a:l[Pm.blanks l 0+Pm.word l (Pm.blanks l 0)]? = M 47
   . rw[if_pos a,if_pos a];by_cases c:Pm.word l (Pm.blanks l 0+Pm.word l (Pm.blanks l 0)+1)=0
     . rw[if_pos c,if_pos c]
     . rw[if_neg c,if_neg c]
   . rw[if_neg a,if_neg a]
def Bp (m:Nat ⊕ (av×List Pm.rT))(w:X)(g:Nat)(e:Ending)(w':X):Prop:=match m with
 | .inl c=>e=gave c∧Turns (only g) w w'
 | .inr x=>∃word ps ao cap,e=Y (.agg #[V word,Z ao ps.length cap])∧word.data.toList=x.1∧lD ps=x.2∧gH w' w.heap.size 240 2 ao cap ps.length (gG ps)∧Turns (only g) w w'
theorem Bp.no {m:Nat ⊕ (av×List Pm.rT)}{w w':X}{g c:Nat}(a:m=.inl c)(b:Turns (only g) w w'):Bp m w g (gave c) w':=by
 subst a;exact⟨rfl,b⟩
structure qN (w:X)(g mb:Nat)(s:ay)(k:Nat)(word:ay)(ps:au)(ao:ak)(cap:Nat)(wr:X):Prop where
 res:wr.heap[w.heap.size]? = M (K #[V ⟨#[]⟩,Z U 0 0] 206 (0,0))
 med:wr.heap[mb]? = M (K #[V word,Z ao ps.length cap] 206 (0,0))
 own:gH wr w.heap.size 240 2 ao cap ps.length (gG ps)
 rd:iR wr g s k
 turns:Turns (only g) w wr
 lt:g<w.heap.size
 mb_:w.heap.size<mb
section
variable {w wr w1 w3:X} {g mb k k':Nat} {s word:ay} {ps ps':au} {ao gJ:ak} {cap cap':Nat}
theorem qN.apart (h:qN w g mb s k word ps ao cap wr)(a:Addr)(e:ao=M a):a.block≠w.heap.size∧a.block≠mb:=by
 have b:=kP h.res h.own (by decide);have c:=kP h.med h.own (by decide);rw[gD,e] at b c;exact⟨fun e=>b (by simp[fV,e]),fun e=>c (by simp[fV,e])⟩
theorem qN.feed (h:qN w g mb s k word ps ao cap wr)(c:iR w1 g s k')(b:Turns (only g) wr w1):qN w g mb s k' word ps ao cap w1:=by
 have d:=h.lt;have f:=h.mb_;exact⟨b.row h.res (fun e=>by unfold only at e;omega),b.row h.med (fun e=>by unfold only at e;omega),h.own.turns b (fun a e i=>by have:=(h.own.block a e).1;unfold only at i;omega),c,h.turns.trans b (fun _ h _=>h),d,f⟩
theorem qN.keep (h:qN w g mb s k word ps ao cap wr)(a:Below wr.heap.size wr w1):qN w g mb s k word ps ao cap w1:=h.feed (h.rd.keep a) (Turns.of_below a)
theorem qN.cells (h:qN w g mb s k word ps ao cap wr):wr.cell? ⟨w.heap.size,0,U⟩=M (V ⟨#[]⟩)∧wr.cell? ⟨w.heap.size,1,U⟩=M (Z U 0 0)∧wr.frozen? ⟨w.heap.size,0,U⟩=F∧wr.frozen? ⟨w.heap.size,1,U⟩=F ∧
 wr.cell? ⟨mb,0,U⟩=M (V word)∧wr.cell? ⟨mb,1,U⟩=M (Z ao ps.length cap)∧wr.frozen? ⟨mb,0,U⟩=F∧wr.frozen? ⟨mb,1,U⟩=F :=
 ⟨eZ wr _ 0 _ _ _ h.res,eZ wr _ 1 _ _ _ h.res,fq wr _ 0 _ _ h.res,fq wr _ 1 _ _ h.res,eZ wr _ 0 _ _ _ h.med,eZ wr _ 1 _ _ _ h.med,fq wr _ 0 _ _ h.med,fq wr _ 1 _ _ h.med⟩
theorem qN.grows (h:qN w g mb s k word ps ao cap wr)(b:Obj)(c:(wr.alloc b).grownBy w3 (fV ao)):Turns (fun i=>w.heap.size<=i∧i≠w.heap.size∧i≠mb) wr w3 :=
 (Turns.iL (fJ wr b U) (fun k e => by cases e)).trans (Turns.iL (S := fun i => w.heap.size <= i ∧ i ≠ w.heap.size ∧ i ≠ mb) c (fun i e => by
  cases ao with
  | none=>simp[fV] at e
  | some a=>simp only[fV,bS] at e;subst e;exact⟨(h.own.block a rfl).1,(h.apart a rfl).1,(h.apart a rfl).2⟩)) (fun _ h _=>h)
theorem qN.tN (h:qN w g mb s k word ps ao cap wr)(f:gH w3 w.heap.size 240 2 gJ cap' ps'.length (gG ps'))(b:Turns (fun i=>w.heap.size<=i∧i≠w.heap.size∧i≠mb) wr w3)(n:Nat)(m:n=ps'.length):qN w g mb s k word ps' gJ cap' (w3.setCell ⟨mb,1,U⟩ (Z gJ n cap')):=by
 subst m;have o:=h.lt;have p:=h.mb_;have q:=b.row h.res (fun e=>e.2.1 rfl);have j:=b.row h.med (fun e=>e.2.2 rfl);have r:=h.rd.turns b (fun e=>by omega);have d:∀a,gJ=M a->a.block≠mb:=fun a e=>by
  have l:=kP j f (by decide);rw[gD,e] at l;exact fun e=>l (by simp[fV,e])
 have c:=Turns.setCell (fun i=>i=mb) w3 ⟨mb,1,U⟩ (Z gJ ps'.length cap') rfl;refine⟨c.row q (by omega),?_,f.turns c (fun a e t=>d a e t),r.turns c (by omega),(h.turns.trans b (fun i e u=>by omega)).trans c (fun i e u=>by omega),o,p⟩;rw[fu w3 mb 1 _ _ _ j];rfl
theorem qN.start (b:wr.heap[w.heap.size]? = M (K #[V ⟨#[]⟩,Z U 0 0] 206 (0,0)))(h:iR wr g s k)(d:Turns (only g) w wr)(e:g<w.heap.size)(x:ay):qN w g wr.heap.size s k x [] U 0 (wr.alloc (K #[V x,Z U 0 0] 206)):=by
 have a:Below wr.heap.size wr (wr.alloc (K #[V x,Z U 0 0] 206)):=(eY _ _).alloc (aM _) _;have c:=(aL.1 b).1;exact⟨(a.block _ c).trans b,eX wr _,gH.nil _ _ _ _,h.keep a,d.trans (S':=only g) (Turns.of_below a) (fun _ h _=>h),e,c⟩
theorem qN.told (h:qN w g mb s k word ps ao cap wr)(a b:Value):gH ((wr.setCell ⟨w.heap.size,0,U⟩ a).setCell ⟨w.heap.size,1,U⟩ b) w.heap.size 240 2 ao cap ps.length (gG ps)∧Turns (only g) w ((wr.setCell ⟨w.heap.size,0,U⟩ a).setCell ⟨w.heap.size,1,U⟩ b):=by
 have c:Turns (fun i=>i=w.heap.size) wr ((wr.setCell ⟨w.heap.size,0,U⟩ a).setCell ⟨w.heap.size,1,U⟩ b) :=
  Turns.trans (S:=fun i=>i=w.heap.size) (Turns.setCell (fun i=>i=w.heap.size) wr ⟨w.heap.size,0,U⟩ a rfl) (Turns.setCell (fun i=>i=w.heap.size) _ _ _ rfl) (fun _ h _=>h)
 exact⟨h.own.turns c (fun a e d=>(h.apart a e).1 d),h.turns.trans c (fun i e f=>by omega)⟩
end
theorem R9 {a:au}{b:av}(h:((lD a).any fun q=>q.1==b)=true):∃p∈a,p.1.data.toList=b:=by grind [lD]
theorem ND {a:au}{b:av}(h:¬((lD a).any fun q=>q.1==b)=true):∀p∈a,p.1.data.toList≠b:=by
 intro p c e;exact h (List.any_eq_true.2 ⟨_,aN.2 ⟨p,c,rfl⟩,by simp[e]⟩)
theorem D6 (s:ay)(g:Nat)(w:X)(h:iR w g s 0)(hs:s.size<=100000):
 Calls prog 264 #[Q (M ⟨g,0,U⟩)] w fun e w'=>Bp (Pm.D5 s.data.toList 0) w g e w':=by
 have hl:s.data.toList.length=s.size:=by rw[aO];rfl
 have hlt:=h.lt;have hb0:=Pm.wL s.data.toList 0 (aA _);rw[hl] at hb0;have hB:Below w.heap.size w (w.alloc (K #[V ⟨#[]⟩,Z U 0 0] 206)):=(eY _ _).alloc (aM _) _;have R0:(w.alloc (K #[V ⟨#[]⟩,Z U 0 0] 206)).heap[w.heap.size]? = M (K #[V ⟨#[]⟩,Z U 0 0] 206 (0,0)):=eX w _;have HB:=rG s 0 g _ (h.keep hB) (by omega) (aA _);have T0:=Turns.of_below (S:=only g) hB;have HW:=fun W (hW:iR W g s (Pm.blanks s.data.toList 0))=>R5 s (Pm.blanks s.data.toList 0) g W hW (by omega) hb0;have a:Pm.D5 s.data.toList 0=match Pm.Af s.data.toList (Pm.blanks s.data.toList 0) with
  | .inl c=>.inl c
  | .inr x=>Pm.fin (s.data.toList.length+1) x.1 (s.data.toList.drop x.2) []:=rfl
 clear hB h;cases hm:Pm.Af s.data.toList (Pm.blanks s.data.toList 0) with
 | inl c =>
   rw[hm] at HW a;clear  hm;go_enter func264,ntmps264;go_wp2_with fail
   refine HB.mono ?_;rintro e w1 ⟨rfl,h1,D⟩;have T1:=T0.trans D (fun _ h _=>h);clear D  T0;go_wp2_with fail
   refine(HW _ h1).mono ?_;rintro e w2 ⟨z,t2⟩;unfold gave at z;subst z;have T2:=T1.trans t2 (fun _ h _=>h);clear t2;go_wp2;exact⟨rfl,Bp.no a T2⟩
 | inr x =>
   obtain⟨wo,i1⟩:=x;rw[hm] at HW a;simp only[] at a;clear  hm;go_enter func264,ntmps264;go_wp2_with fail
   refine HB.mono ?_;rintro e w1 ⟨rfl,h1,D⟩;have T1:=T0.trans D (fun _ h _=>h);have S1:=D.row R0 (fun e=>by unfold only at e;omega);clear D  T0 HB R0;go_wp2_with fail
   refine(HW _ h1).mono ?_;rintro e w2 ⟨rfl,hi1,h2,t2⟩;simp only[] at hi1 h2;have T2:=T1.trans t2 (fun _ h _=>h);have S2:=t2.row S1 (fun e=>by unfold only at e;omega);have HA2:=qN.start S2 h2 T2 hlt ⟨wo.toArray⟩;clear t2 h2 T1 S1 S2 T2 HW;have hwo:(⟨wo.toArray⟩:ay).data.toList=wo:=rfl;generalize (⟨wo.toArray⟩:ay)=wb at *;go_wp2_with fail
   refine(rG s i1 g _ HA2.rd (by omega) hi1).mono ?_;rintro e w3 ⟨rfl,h3,t3⟩;have Jy:=HA2.feed h3 t3;clear h3 t3 HA2;go_wp2;go_loopw [] (fun wr=>∃(i f:Nat) (d:au) (G:ak) (k:Nat),i<=s.size∧qN w g w2.heap.size s (Pm.blanks s.data.toList i) wb d G k wr∧s.size<f+i∧d.length<=8∧Pm.D5 s.data.toList 0=Pm.fin f wo (s.data.toList.drop i) (lD d)) (fun wr=>s.size-xw wr g)
   case atStart=>exact⟨i1,s.size+1,[],U,0,hi1,Jy,by omega,by simp,by have:=a;rw[hl] at this;exact this⟩
   case round =>
    clear Jy  hi1;obtain⟨i,f,d,G,k,hi,hA,hf,h8,a⟩:=hrel;obtain⟨f',rfl⟩:∃f',f=f'+1:=⟨f-1,by omega⟩;rw[Pm.fin_at s.data.toList f' i _ _ (by rw[hl];exact hi),hl] at a;have hb1:=Pm.wL s.data.toList i (by rw[hl];exact hi);have hb2:=Pm.FW s.data.toList i;rw[hl] at hb1;generalize Pm.blanks s.data.toList i=b at *;have Zi:=hA.rd.xw;have B:=qL s b g wr hA.rd;by_cases H:b=s.size
    . subst H;have D:decide (s.size<s.size)=F:=by rw[bO];omega
      rw[D] at B;have HR:Pm.D5 s.data.toList 0=.inr (wo,lD d):=by have:=a;rw[if_pos rfl] at this;exact this
      clear  D;go_wp2_with fail
      refine B.mono ?_;rintro e w4 ⟨rfl,q,hw⟩;have Ww:qN w g w2.heap.size s s.size wb d G k w4:=by rw[hw];exact hA.keep (iZ ⟨q,rfl⟩)
      clear hw  B;obtain⟨c0,c1,f0,f1,d0,d1,g0,g1⟩:=Ww.cells;have HT:=Ww.told (V wb) (Z G d.length k);go_wp2;refine fI (v:=.agg #[V wb,Z G d.length k]) (by simp[results,results264,go_sem,c0,c1]) rfl ?_;rw[HR];exact⟨wb,d,G,k,rfl,hwo,rfl,HT.1,HT.2⟩
    . have hlt1:b<s.size:=by omega
      have D:decide (b<s.size)=true:=by rw[bP];omega
      rw[D] at B;have a:=a;rw[if_neg H] at a;clear  D H;go_wp2_with fail
      refine B.mono ?_;rintro e w4 ⟨rfl,q,hw⟩;have Ww:qN w g w2.heap.size s b wb d G k w4:=by rw[hw];exact hA.keep (iZ ⟨q,rfl⟩)
      clear hw  B;by_cases L:s.data.toList[b]? = M 59
      . have m:=Pm.aal s.data.toList b;rw[if_pos L] at m;have N:=fun p r'=>Pm.R8 (r:=s.data.toList.drop b) (r':=r') (p:=p);rw[m] at a N;have hb3:=Pm.wL s.data.toList (b+1) (by rw[hl];omega);rw[hl] at hb3;clear m;go_wp2_with fail
        refine(vU s b g 59 _ Ww.rd (by omega) L).mono ?_;rintro e w5 ⟨rfl,h5,t5⟩;have HA5:=Ww.feed h5 t5;clear h5 t5 Ww;go_wp2_with fail
        refine(rG s (b+1) g _ HA5.rd (by omega) (by omega)).mono ?_;rintro e w6 ⟨rfl,h6,t6⟩;have HA6:=HA5.feed h6 t6;clear h6 t6 HA5;generalize Pm.blanks s.data.toList (b+1)=i2 at *;have HP:=Nz s i2 g w6 HA6.rd hs hb3;cases hp:Pm.Ny s.data.toList i2 with
        | inl c =>
          rw[hp] at a HP;clear  hp ;go_wp2_with fail
          refine HP.mono ?_;rintro e w7 ⟨z,t7⟩;unfold gave at z;subst z;have T7:=HA6.turns.trans t7 (fun _ h _=>h);clear t7;go_wp2;exact⟨rfl,Bp.no a T7⟩
        | inr y =>
          obtain⟨⟨n,v⟩,r⟩:=y;rw[hp] at a HP;simp only[] at a;have N:=N _ _ hp;rw[bT,hl] at N;clear hp;go_wp2_with fail
          refine HP.mono ?_;rintro e w7 ⟨rfl,⟨j,hj,h7,hd⟩,t7⟩;simp only[] at hd;subst hd;rw[bT,hl] at N;have hjb:b<j:=by omega
          have HA7:=HA6.feed h7 t7;clear t7 h7  HA6 HP;have hnb:(⟨n.toArray⟩:ay).data.toList=n:=rfl;have hvb:(⟨v.toArray⟩:ay).data.toList=v:=rfl;generalize (⟨n.toArray⟩:ay)=nb at *;generalize (⟨v.toArray⟩:ay)=T at *;subst hnb;subst hvb;have hBp:Below w7.heap.size w7 (w7.alloc (K #[V nb,V T] 240)):=(eY _ _).alloc (aM _) _;have l:=HA7.keep hBp;have HPb:(w7.alloc (K #[V nb,V T] 240)).heap[w7.heap.size]? = M (K #[V nb,V T] 240 (0,0)):=eX w7 _;clear hBp HA7;obtain⟨c0,c1,f0,f1,d0,d1,g0,g1⟩:=l.cells;by_cases h9:((lD d).any fun q=>q.1==nb.data.toList)=true
          . rw[if_pos h9] at a;have HY:=R9 h9;clear h9;go_wp2_with fail
            refine(KS d nb T G k d.length _ l.own.qE rfl h8 HY).mono ?_;rintro e w9 ⟨z,b9⟩;unfold gave at z;subst z;have T9:=(l.keep b9).turns;clear b9;go_wp2;exact⟨rfl,Bp.no a T9⟩
          . rw[if_neg h9] at a;have vW:=ND h9;clear h9;by_cases C:(lD d).length=8
            . rw[if_pos C] at a;rw[rH] at C;have H8:=H9 C;clear  C;go_wp2_with fail
              refine(NC d nb T G k d.length _ l.own.qE rfl (by have:=H8.o;omega) (by omega) vW).mono ?_;rintro e w9 ⟨z,b9⟩;unfold gave at z;subst z;have T9:=H9 (l.keep b9).turns;clear b9;go_wp2;exact⟨rfl,Bp.no a T9.out⟩
            . rw[if_neg C] at a;have HR:=H9 a;rw[rH] at C;go_wp2_with fail
              refine(Wv d nb T G k d.length _ l.own.qE rfl (by omega) vW).mono ?_;rintro e w9 ⟨rfl,b9⟩;have t:=H9 (l.keep b9);have adG:=H9 ((b9.block _ (aL.1 HPb).1).trans HPb);clear b9 l HPb c0 c1 f0 f1 d0 d1 g0 g1 vW;obtain⟨c0,c1,f0,f1,d0,d1,g0,g1⟩:=t.o.cells;have p0:w9.cell? ⟨w7.heap.size,0,U⟩=M (V nb):=eZ w9 _ 0 _ _ _ adG.o;have p1:w9.cell? ⟨w7.heap.size,1,U⟩=M (V T):=eZ w9 _ 1 _ _ _ adG.o;obtain⟨t0,hi0,hz0,hz1,hz2⟩:=info_parts NA;have Hi:=H9 hi0;have kY:=H9 hz0;have kT:=H9 hz1;have kZ:=H9 hz2
              clear hi0 hz0 hz1 hz2;go_wp2_with (at_builtin;refine gP rfl (.tmp 27) (.tmp 29) 204 rfl w.heap.size 240 t0 (.agg #[V ⟨#[]⟩,V ⟨#[]⟩]) 2 32 underlying204 Hi.o kY.o kT.o kZ.o rfl (by decide) rfl (t.o.own.alloc _) rfl (ji.made _ _ 1 _ _) rfl (fun u hu=>by simp at hu;rcases hu with rfl | rfl <;> rfl) (by omega) (by omega) (by have:=t.o.turns.size;simp;omega) ?_;intro xY cap5 w10 vX IL _;have Bq:=t.o.grows _ IL;have hm5:=Bq.row t.o.med (fun e=>e.2.2 rfl);have m1:w10.cell? ⟨w2.heap.size,1,U⟩=M (Z G d.length k):=eZ w10 _ 1 _ _ _ hm5;have mf:w10.frozen? ⟨w2.heap.size,1,U⟩=F:=fq w10 _ 1 _ _ hm5;have zk:=H9 vX;have nX:=H9 Bq;clear vX IL Bq hm5)
              have hO:=zk.o;rw[show gG d++(#[Value.string nb,Value.string T]).toList=gG (d++[(nb,T)]) by rw[pW];rfl] at hO;have abA:=H9 (t.o.tN (ps':=d++[(nb,T)]) (by rw[aV];exact hO) nX.o (d.length+1) (by rw[aV];rfl));clear hO zk nX t;refine(rG s j g _ abA.o.rd (by omega) hj).mono ?_;rintro e w11 ⟨rfl,h11,t11⟩;have adI:=H9 (abA.o.feed h11 t11);have hge:=Pm.FW s.data.toList j;clear h11 t11 abA;go_wp2;go_roundw
              case rel=>exact⟨j,f',d++[(nb,T)],xY,cap5,hj,adI.o,by omega,by rw[aV];simp;omega,by rw[a,KQ];rfl⟩
              case measure=>rw[adI.o.rd.xw,Zi];omega
      . have m:=Pm.aal s.data.toList b;rw[if_neg L] at m;rw[m] at a;have HR:=H9 a;have HN:=H9 (Qt s b g 59 _ Ww.rd L);clear  m L;go_wp2_with fail
        refine HN.o.mono ?_;rintro e w5 ⟨z,t5⟩;unfold gave at z;subst z;have T5:=H9 (Ww.turns.trans t5 (fun _ h _=>h));clear t5;go_wp2;exact⟨rfl,Bp.no HR.o T5.out⟩
theorem BX (p:Addr)(x c:Int)(a:List PanicEntry)(w:X)(i:w.cell? p=M (I J x))(j:w.frozen? p=F):
 CallsD prog 291 #[Q (M p)] (.panicking ({ v:=.iface 326 (I J c),recovered:=F }::a)) w fun e d w' =>
  e=Y (.tuple #[])∧d=.panicking ({ v:=.iface 326 (I J c),recovered:=true }::a)∧w'=w.setCell p (I J c):=by
 refine callsD_of_wpS func291 rfl fun b k f=>?_;apply wpS_seq;apply wpS_region;simp[wpOpsS,go_sem,recoverD,f,ntmps291,Exit.thenS];change Code.wpS _ _ _ { tmps:=#[Q (M p),.iface 326 (I J c),.iface 326 (I J c),undef,undef,undef,undef],defers:=[] } _ _;refine wpS_of_wp ?_;have g:∀w:X,(Instr.typeAssert (.iface 326 (I J c)) 20 326 F).run prog w=.ok (I J c) w:=fun _=>by kernel_rfl
 go_wp2;simp[bodyPostS,results,results291]
theorem NG (p:Addr)(w:X):
 CallsD prog 291 #[Q (M p)] .returning w fun e b w'=>e=Y (.tuple #[])∧b=.returning∧w'=w:=by
 refine callsD_of_wpS func291 rfl fun a d c=>?_;apply wpS_seq;apply wpS_region;simp[wpOpsS,go_sem,recoverD,c,ntmps291,Exit.thenS];change Code.wpS _ _ _ { tmps:=#[Q (M p),.nilIface,.nilIface,undef,undef,undef,undef],defers:=[] } _ _;refine wpS_of_wp ?_;go_wp2;cases a;simp_all [bodyPostS,results,results291]
def both (g rb:Nat):Nat->Prop:=fun k=>k=g∨k=rb
def abB (x:av×List Pm.rT)(base rb:Nat)(w':X):Prop :=
 ∃word ps ao cap,w'.heap[rb]? = M (K #[V word,Z ao ps.length cap] 206 (0,0))∧word.data.toList=x.1∧lD ps=x.2∧gH w' base 240 2 ao cap ps.length (gG ps)
theorem Sb (s:ay)(g d:Nat)(w:X)(h:iR w g s 0)(f:s.size<=100000)(c:Nat)(i:Pm.D5 s.data.toList 0=.inl c):
 Calls prog 263 #[Q (M ⟨g,0,U⟩),Q (M ⟨d,0,U⟩)] w fun e w'=>e=gave c∧Turns (only g) w w':=by
 have a:=D6 s g w h f;rw[i] at a;go_enter func263,ntmps263;go_wp2_with fail
 refine a.mono ?_;rintro e k ⟨b,j⟩;unfold gave at b;subst b;go_wp2;exact⟨rfl,rfl,j⟩
theorem NH (s:ay)(g b:Nat)(w:X)(h:iR w g s 0)(n:w.heap[b]? = M (K #[V ⟨#[]⟩,Z U 0 0] 206 (0,0)))(B:s.size<=100000)(x:av×List Pm.rT)(C:Pm.D5 s.data.toList 0=.inr x):
 Calls prog 263 #[Q (M ⟨g,0,U⟩),Q (M ⟨b,0,U⟩)] w fun e w'=>e=Y (.tuple #[])∧abB x w.heap.size b w'∧Turns (both g b) w w':=by
 have t:=D6 s g w h B;rw[C] at t;have p:b≠g:=by
  rintro rfl;unfold iR at h;rw[n] at h;injection h with h;injection h with _ h _;exact absurd h (by decide)
 have D:=(aL.1 n).1;go_enter func263,ntmps263;go_wp2_with fail
 refine t.mono ?_;rintro e f ⟨j,l,m,c,rfl,q,r,u,v⟩;have d:=H9 (v.row n (fun e=>p e));have W:=eZ f _ 0 _ _ _ d.o;have c1:=eZ f _ 1 _ _ _ d.o;have f0:=fq f _ 0 _ _ d.o;have f1:=fq f _ 1 _ _ d.o;have y:Hid (Turns (fun i=>i=b) f ((f.setCell ⟨b,0,U⟩ (V j)).setCell ⟨b,1,U⟩ (Z m l.length c))) :=
  Turns.trans (S:=fun i=>i=b) (Turns.setCell (fun i=>i=b) f ⟨b,0,U⟩ (V j) rfl) (Turns.setCell (fun i=>i=b) _ _ _ rfl) (fun _ h _=>h)
 have G:Hid (((f.setCell ⟨b,0,U⟩ (V j)).setCell ⟨b,1,U⟩ (Z m l.length c)).heap[b]? = M (K #[V j,Z m l.length c] 206 (0,0))):=by
  have H:=fu f b 0 _ _ (V j) d.o;have L:=fu _ b 1 _ _ (Z m l.length c) H;unfold Hid;rw[L];rfl
 have N:=u.turns y.o (fun a e e2=>by have:=(u.block a e).1;omega);have T:Turns (both g b) w ((f.setCell ⟨b,0,U⟩ (V j)).setCell ⟨b,1,U⟩ (Z m l.length c)):=(v.mono (S':=both g b) (fun k e=>Or.inl e)).trans y.o (fun i e _=>Or.inr e);have z:j.data.toList=x.1∧lD l=x.2:=⟨q,r⟩;go_wp2;go_end0
 exact⟨rfl,⟨j,l,m,c,G.o,z.1,z.2,N⟩,T⟩
theorem Sc (s:ay)(g d:Nat)(w:X)(h:iR w g s 0)(q:s.size<=100000)(c:Nat)(r:Pm.D5 s.data.toList 0=.inl c):
 Calls prog 262 #[.func (.func 263) #[] #[Q (M ⟨g,0,U⟩),Q (M ⟨d,0,U⟩)]] w fun e w'=>e=Y (I J (c:Int))∧Turns (only g) w w':=by
 have D:∀(j:Fn) (first a:Array Value) (w:X),(Instr.makeFunc j first a).run prog w=.ok (.func j first a) w:=fun _ _ _ _=>rfl;have t:=h.lt;have l:Below w.heap.size w (w.alloc (K #[I J 0] 3)):=(eY _ _).alloc (aM _) _;have u:(w.alloc (K #[I J 0] 3)).heap[w.heap.size]? = M (K #[I J 0] 3 (0,0)):=eX w _;have v:=Turns.of_below (S:=only g) l;go_enter_defers func262,ntmps262
 go_wp2_with fail
 refine(Sb s g d _ (h.keep l) q c r).mono ?_;rintro e b ⟨m,n⟩;unfold gave at m;subst m;have o:=n.row u (fun e=>by unfold only at e;omega);have x:=v.trans n (fun _ h _=>h);have p:=eZ b _ 0 _ _ _ o;have y:=fq b _ 0 _ _ o;have z:Turns (only g) w (b.setCell ⟨w.heap.size,0,U⟩ (I J c)):=x.trans (Turns.setCell (fun k=>k=w.heap.size) _ _ _ rfl) (fun i e G=>by omega);have B:(b.setCell ⟨w.heap.size,0,U⟩ (I J c)).cell? ⟨w.heap.size,0,U⟩=M (I J c):=fA b _ _ p;go_wp2;refine leaves_cons (f:=291) (args:=#[Q (M ⟨w.heap.size,0,U⟩)]) (by simp) (by simp[go_sem]) ?_;refine(BX ⟨w.heap.size,0,U⟩ 0 c [] _ p y).mono ?_;rintro e H C ⟨rfl,rfl,rfl⟩;simp[Leaves,settle,results,results262,go_sem,B];exact z
theorem NI (s:ay)(g b:Nat)(w:X)(h:iR w g s 0)(q:w.heap[b]? = M (K #[V ⟨#[]⟩,Z U 0 0] 206 (0,0)))(z:s.size<=100000)(x:av×List Pm.rT)(B:Pm.D5 s.data.toList 0=.inr x):
 Calls prog 262 #[.func (.func 263) #[] #[Q (M ⟨g,0,U⟩),Q (M ⟨b,0,U⟩)]] w fun e w'=>e=Y (I J 0)∧abB x w.heap.size b w'∧Turns (both g b) w w':=by
 have Qi:∀(r:Fn) (first c:Array Value) (w:X),(Instr.makeFunc r first c).run prog w=.ok (.func r first c) w:=fun _ _ _ _=>rfl;have C:=h.lt;have j:=(aL.1 q).1;have l:Below w.heap.size w (w.alloc (K #[I J 0] 3)):=(eY _ _).alloc (aM _) _;have D:(w.alloc (K #[I J 0] 3)).heap[w.heap.size]? = M (K #[I J 0] 3 (0,0)):=eX w _;have t:=NH s g b _ (h.keep l) ((l.block b j).trans q) z x B;have G:=Turns.of_below (S:=both g b) l;have H:(w.alloc (K #[I J 0] 3)).heap.size=w.heap.size+1:=by simp
 rw[H] at t;go_enter_defers func262,ntmps262
 go_wp2_with fail
 refine t.mono ?_;rintro e d ⟨rfl,⟨L,N,T,c,W,m,n,u⟩,v⟩;have y:=v.row D (fun e=>by unfold both at e;omega);have T1:=G.trans v (fun _ h _=>h);have c0:=eZ d _ 0 _ _ _ y;have f0:=fq d _ 0 _ _ y;have p:=Turns.setCell (fun k=>k=w.heap.size) d ⟨w.heap.size,0,U⟩ (I J 0) rfl;have T2:Turns (both g b) w (d.setCell ⟨w.heap.size,0,U⟩ (I J 0)):=T1.trans p (fun i e hi=>by omega);have HI:Hid (abB x w.heap.size b (d.setCell ⟨w.heap.size,0,U⟩ (I J 0))) :=
  ⟨L,N,T,c,p.row W (by omega),m,n,(u.turns p (fun a e e2=>by have:=(u.block a e).1;omega)).mono (by omega)⟩
 have c2:(d.setCell ⟨w.heap.size,0,U⟩ (I J 0)).cell? ⟨w.heap.size,0,U⟩=M (I J 0):=fA d _ _ c0;go_wp2;refine leaves_cons (f:=291) (args:=#[Q (M ⟨w.heap.size,0,U⟩)]) (by simp) (by simp[go_sem]) ?_;refine(NG ⟨w.heap.size,0,U⟩ _).mono ?_;rintro e u' w'' ⟨rfl,rfl,rfl⟩;simp[Leaves,settle,results,results262,go_sem,c2];exact⟨HI.o,T2⟩
end Go.Proofs.YthhklgjjnaeaoaaGreatDoor