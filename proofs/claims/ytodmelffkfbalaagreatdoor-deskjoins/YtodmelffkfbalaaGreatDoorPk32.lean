import Derived.Test.YtodmelffkfbalaaGreatDoorRfChunks
open Go.Value renaming int->I,string->V,slice->Z,pointer->Q
open Go.IntKind renaming i64->J
open Go.Ending renaming returned->Y
open Option renaming none->U,some->M
open Go renaming World->X
set_option maxHeartbeats 1600000
open Go.Proofs.Tryz
namespace Go.Proofs.YtodmelffkfbalaaGreatDoor
open Go.RowKit
def Bp (m:Nat ⊕ (ab×List cW))(word:ae)(ps:aC)(code:Nat):Prop :=
 match m with
 | .inl c=>code=c∧word=⟨#[]⟩∧ps=[]
 | .inr x=>code=0∧word.data.toList=x.1∧dy ps=x.2
def tA (w:X)(m:Nat ⊕ (ab×List cW))(e:Ending)(w':X):Prop :=
 ∃word ps ao cap,∃code:Nat,e=Y (.tuple #[.agg #[V word,Z ao ps.length cap],I J (code:Int)])∧Bp m word ps code∧aK w' w.heap.size 283 2 ao cap ps.length (aI ps)∧Below w.heap.size w w'
theorem tA.a {w w':X}{m:Nat ⊕ (ab×List cW)}{c:Nat}(a:m=.inl c)(b:Below w.heap.size w w'):tA w m (Y (.tuple #[.agg #[V ⟨#[]⟩,Z U 0 0],I J (c:Int)])) w':=by
 subst a;exact⟨⟨#[]⟩,[],U,0,c,rfl,⟨rfl,rfl,rfl⟩,aK.y _ _ _ _,b⟩
structure tK (w:X)(wd:ae)(ao:ag)(n cap:Nat)(wr:X):Prop where
 a:wr.heap[w.heap.size]? = M (.cells #[V wd,Z ao n cap] 244 (0,0))
 below:Below w.heap.size w wr
section
variable {w wr w':X} {wd:ae} {ao:ag} {n cap:Nat}
theorem tK.r (h:tK w wd ao n cap wr):w.heap.size<wr.heap.size:=(bO.1 h.a).1
theorem tK.f (h:tK w wd ao n cap wr)(a:Below wr.heap.size wr w'):tK w wd ao n cap w':=by
 have b:=h.r;exact⟨(a.block _ b).trans h.a,h.below.trans (a.mono (by omega))⟩
theorem tK.y (w:X)(wd:ae)(ao:ag)(n cap:Nat):tK w wd ao n cap (w.alloc (.cells #[V wd,Z ao n cap] 244)):=⟨aX w _,(ar _ _).alloc (ak _) _⟩
theorem tK.j (h:tK w wd ao n cap wr):wr.cell? ⟨w.heap.size,0,U⟩=M (V wd)∧wr.cell? ⟨w.heap.size,1,U⟩=M (Z ao n cap):=⟨aq wr _ 0 _ _ _ h.a,aq wr _ 1 _ _ _ h.a⟩
end
theorem Sn (w:X)(p:Nat)(c:UInt8)(t:p=1∨p=2∨p=3∨p=4):
 Calls prog 374 #[I J (p:Int),I .u8 c.toNat] w fun e w'=>e=Y (.tuple #[I J ((ih p c).1:Int),I J ((ih p c).2:Int)])∧w'=w:=by
 have T:∀d:UInt8,((c.toNat:Int)==(d.toNat:Int))=decide (c=d):=fun d=>by
  rw[iM,cR,bR];constructor
  . intro e;exact lN.1 (by omega)
  . intro e;rw[e]
 have n:((c.toNat:Int)==10)=decide (c=10):=T 10;have q:((c.toNat:Int) != 10)=!decide (c=10):=by rw[<-n];rfl
 have j:((c.toNat:Int)==45)=decide (c=45):=T 45;have g:((c.toNat:Int)==32)=decide (c=32):=T 32;have s:((c.toNat:Int)==9)=decide (c=9):=T 9;have k:((c.toNat:Int)==13)=decide (c=13):=T 13;have u:∃x y:Nat,ih p c=(x,y):=⟨_,_,rfl⟩;obtain⟨x,y,r⟩:=u;have i:=aa r;rw[r];unfold ih at i;generalize (c.toNat:Int)=v at *;rcases t with rfl | rfl | rfl | rfl
 . have f:Hid ((if c=45 then (2,0) else if c=32∨c=9 then (3,0) else if c=13 then (4,0) else (0,5))=(x,y)):=by
    have:=i.o;rw[if_neg (by decide),if_neg (by decide)] at this;unfold Hid;simpa using this
   by_cases a:c=45
   . obtain⟨rfl,rfl⟩:2=x∧0=y:=by have:=f.o;rw[if_pos a] at this;simpa using this
     rw[br a] at j;go_enter func374,ntmps374;go_wp2;go_ret2;exact⟨rfl,rfl⟩
   . rw[ba a] at j;by_cases b:c=32∨c=9
     . obtain⟨rfl,rfl⟩:3=x∧0=y:=by have:=f.o;rw[if_neg a,if_pos b] at this;simpa using this
       rcases b with b | b
       . rw[br b] at g;go_enter func374,ntmps374;go_wp2;go_ret2;exact⟨rfl,rfl⟩
       . rw[ba (by rw[b];decide)] at g;rw[br b] at s;go_enter func374,ntmps374;go_wp2;go_ret2;exact⟨rfl,rfl⟩
     . rw[ba (fun e=>b (Or.inl e))] at g;rw[ba (fun e=>b (Or.inr e))] at s;by_cases l:c=13
       . obtain⟨rfl,rfl⟩:4=x∧0=y:=by have:=f.o;rw[if_neg a,if_neg b,if_pos l] at this;simpa using this
         rw[br l] at k;go_enter func374,ntmps374;go_wp2;go_ret2;exact⟨rfl,rfl⟩
       . obtain⟨rfl,rfl⟩:0=x∧5=y:=by have:=f.o;rw[if_neg a,if_neg b,if_neg l] at this;simpa using this
         rw[ba l] at k;go_enter func374,ntmps374;go_wp2;go_ret2;exact⟨rfl,rfl⟩
 . have f:(if c=45 then (6,0) else (0,5))=(x,y):=by
    have:=i.o;rw[if_neg (by decide),if_pos rfl] at this;exact this
   by_cases a:c=45
   . obtain⟨rfl,rfl⟩:6=x∧0=y:=by have:=f;rw[if_pos a] at this;simpa using this
     rw[br a] at j;go_enter func374,ntmps374;go_wp2;go_ret2;exact⟨rfl,rfl⟩
   . obtain⟨rfl,rfl⟩:0=x∧5=y:=by have:=f;rw[if_neg a] at this;simpa using this
     rw[ba a] at j;go_enter func374,ntmps374;go_wp2;go_ret2;exact⟨rfl,rfl⟩
 . have f:(if c=32∨c=9 then (3,0) else if c=13 then (4,0) else (0,5))=(x,y):=by
    have:=i.o;rw[if_neg (by decide),if_neg (by decide),if_neg (fun e=>by have:=e.1;omega)] at this;exact this
   by_cases b:c=32∨c=9
   . obtain⟨rfl,rfl⟩:3=x∧0=y:=by have:=f;rw[if_pos b] at this;simpa using this
     rcases b with b | b
     . rw[br b] at g;go_enter func374,ntmps374;go_wp2;go_ret2;exact⟨rfl,rfl⟩
     . rw[ba (by rw[b];decide)] at g;rw[br b] at s;go_enter func374,ntmps374;go_wp2;go_ret2;exact⟨rfl,rfl⟩
   . rw[ba (fun e=>b (Or.inl e))] at g;rw[ba (fun e=>b (Or.inr e))] at s;by_cases l:c=13
     . obtain⟨rfl,rfl⟩:4=x∧0=y:=by have:=f;rw[if_neg b,if_pos l] at this;simpa using this
       rw[br l] at k;go_enter func374,ntmps374;go_wp2;go_ret2;exact⟨rfl,rfl⟩
     . obtain⟨rfl,rfl⟩:0=x∧5=y:=by have:=f;rw[if_neg b,if_neg l] at this;simpa using this
       rw[ba l] at k;go_enter func374,ntmps374;go_wp2;go_ret2;exact⟨rfl,rfl⟩
 . have f:(if c=10 then (5,0) else (0,2))=(x,y):=by
    have:=i.o;rw[if_pos rfl] at this;exact this
   by_cases m:c=10
   . obtain⟨rfl,rfl⟩:5=x∧0=y:=by have:=f;rw[if_pos m] at this;simpa using this
     rw[br m] at n q;go_enter func374,ntmps374;go_wp2;go_ret2;exact⟨rfl,rfl⟩
   . obtain⟨rfl,rfl⟩:0=x∧2=y:=by have:=f;rw[if_neg m] at this;simpa using this
     rw[ba m] at n q;go_enter func374,ntmps374;go_wp2;go_ret2;exact⟨rfl,rfl⟩
theorem QI (w:X)(g:Nat)(fo:ag)(nf gy:Nat)(a:w.cell? ⟨g,3,U⟩=M (Z fo nf gy))(b:w.frozen? ⟨g,3,U⟩=false):
 Calls prog 380 #[Q (M ⟨g,2,U⟩)] w fun e w'=>e=Y (Z fo nf gy)∧w'=w.setCell ⟨g,3,U⟩ (Z U 0 0):=by
 go_enter func380,ntmps380;go_wp2;go_ret;exact⟨rfl,rfl⟩
theorem QJ {m:ab}(c:m.take 2=[13,10])(g:3<=m.length):fJ m 0 13=1∧fJ m 1 10=2:=by
 have a:m.take 1=[13]:=by
  have:=lL (List.take 1) c;rw[List.take_take] at this;simpa using this
 have d:ez m 0 13=1:=by
  refine nS.a ⟨by omega,by rw[a];exact List.suffix_refl _,fun k e _ b=>?_⟩;have:=b.length_le;rw[bU] at this;simp at this;omega
 have f:ez m 1 10=2:=by
  refine nS.a ⟨by omega,by rw[c,a];exact List.suffix_refl _,fun k e _ b=>?_⟩;have:=b.length_le;rw[bU] at this;simp at this;omega
 constructor
 . unfold fJ eK;rw[d];simp;omega
 . unfold fJ eK;rw[f];simp;omega
theorem Hw (w:X)(g gs:Nat)(m:ab)(p:kc)(v:Value)(r:w.cell? ⟨g,0,U⟩=M (Q (M ⟨gs,0,U⟩)))(c1:w.cell? ⟨g,1,U⟩=M v)(f1:w.frozen? ⟨g,1,U⟩=false)(s:g≠gs)(t:ei w gs m 0 p)(u:m.take 2=[13,10])(S:3<=m.length)(hL:m.length<=1000000):
 Calls prog 319 #[Q (M ⟨g,0,U⟩)] w fun e w'=>∃x,e=Y (.tuple #[])∧w'=x.setCell ⟨g,1,U⟩ (I J 2)∧ei x gs m 2 p∧w.grownBy x (M gs):=by
 have T:=QJ u S;have n:=aa t;have y:∀W,w.grownBy W (M gs)->W.cell? ⟨g,0,U⟩=M (Q (M ⟨gs,0,U⟩))∧W.cell? ⟨g,1,U⟩=M v∧W.frozen? ⟨g,1,U⟩=false:=fun W l=>by
  have z:(M g:Option Nat)≠M gs:=fun e=>s (by injection e);refine⟨l.cell r z,l.cell c1 z,?_⟩;rw[vx (a:=⟨g,1,U⟩) (l.block g (bY w _ r) z)];exact f1
 have B:3<=m.length∧m.length<=1000000:=⟨S,hL⟩;go_enter func319,ntmps319;go_wp2;go_loopw [3] (fun C wr=>∃k:Nat,k<=2∧C=I J k∧ei wr gs m k p∧w.grownBy wr (M gs)) (fun C _=>2-(intOf C).toNat)
 case atStart=>exact⟨0,by omega,rfl,n.o,⟨rfl,rfl,rfl,ak _,fun _ _ _=>rfl⟩⟩
 case round =>
  obtain⟨k,hk,rfl,t,l⟩:=hrel;have n:=t;have D:=aa l
  have r:=y wr l;by_cases u:k=2
  . subst u;go_wp2;go_end0
    exact⟨wr,rfl,rfl,n,D.o⟩
  . by_cases h0:k=0
    . subst h0;have f:=fun(W:X) (G:ei W gs m 0 p)=>yI W gs m 0 13 p G (ax _) B.2;rw[T.1] at f;generalize (dE m 0 13)=oo at f;generalize (eK m 0 13)=ff at f;have H:=n.a (bj _ _);go_wp2;go_region_held3 (fun w'=>w'.cell? ⟨g,0,U⟩=M (Q (M ⟨gs,0,U⟩))) (go_keep) (first | (go_at_call 353;refine(f _ H).mono ?_;rintro e w2 ⟨gL,q,rfl,L,c,d⟩;have b:=og D.o (og (vJ _ _) d);have N:=(y _ b).1;have i:=aa c;have j:=aa b;clear L c d b))
      all_goals
       go_wp2;go_roundw
       case rel=>exact⟨1,by omega,by go_num,i.o,j.o⟩
       case measure=>simp[intOf]
    . obtain rfl:k=1:=by omega
      have f:=fun(W:X) (G:ei W gs m 1 p)=>yI W gs m 1 10 p G (by have:=B.1;omega) B.2;rw[T.2] at f;generalize (dE m 1 10)=oo at f;generalize (eK m 1 10)=ff at f;have H:=n.a (bj _ _);go_wp2;go_region_held3 (fun w'=>w'.cell? ⟨g,0,U⟩=M (Q (M ⟨gs,0,U⟩))) (go_keep) (first | (go_at_call 353;refine(f _ H).mono ?_;rintro e w2 ⟨gL,q,rfl,L,c,d⟩;have b:=og D.o (og (vJ _ _) d);have N:=(y _ b).1;have i:=aa c;have j:=aa b;clear L c d b))
      all_goals
       go_wp2;go_roundw
       case rel=>exact⟨2,by omega,by go_num,i.o,j.o⟩
       case measure=>simp[intOf]
inductive G4 (w:X)(g gs ah:Nat)(m:ab)(h:Nat)(c:UInt8)(p:kc)(e:Ending)(w':X):Prop
 | mk (w1:X) (ao:ag) (cap n:Nat) (he:e=Y (.tuple #[Z ao n cap,.bool (eK m h c)])) (hn:n=((dE m h c).drop ah).length) (hw:w'=w1.setCell ⟨g,1,U⟩ (I J ((ah-(dE m h c).length:Nat):Int))) (hB:aB w1 ao cap ((dE m h c).drop ah)) (hlo:∀a,ao=M a->w.heap.size<=a.block) (hS:ei w1 gs m (fJ m h c) p) (hG:w.grownBy w1 (M gs))
theorem KB (w:X)(g gs d:Nat)(m:ab)(h:Nat)(c:UInt8)(p:kc)(B:w.cell? ⟨g,0,U⟩=M (Q (M ⟨gs,0,U⟩)))(c1:w.cell? ⟨g,1,U⟩=M (I J (d:Int)))(f1:w.frozen? ⟨g,1,U⟩=false)(C:g≠gs)(hS:ei w gs m h p)(N:h<=m.length-1)(hL:m.length<=1000)(ha:d<=1000):
 Calls prog 370 #[Q (M ⟨g,0,U⟩),I .u8 c.toNat] w fun e w'=>G4 w g gs d m h c p e w':=by
 have S:=aa (yI w gs m h c p hS N (by omega));have D:=zJ m h c N;have HC:∀W,w.grownBy W (M gs)->W.cell? ⟨g,0,U⟩=M (Q (M ⟨gs,0,U⟩))∧W.cell? ⟨g,1,U⟩=M (I J (d:Int))∧W.frozen? ⟨g,1,U⟩=false:=fun W l=>by
  have v:(M g:Option Nat)≠M gs:=fun e=>C (by injection e);refine⟨l.cell B v,l.cell c1 v,?_⟩;rw[vx (a:=⟨g,1,U⟩) (l.block g (bY w _ B) v)];exact f1
 have G:∀(j:X) (f q:ag) (b n k:Nat),bl j w.heap.size 5 f b (dE m h c)->ei j gs m (fJ m h c) p->w.grownBy j (M gs)->k=min d (dE m h c).length->n=(dE m h c).length-k->(b≠k->q=f.map (·.add k))->(b=k->q=f)->G4 w g gs d m h c p (Y (.tuple #[Z q n (b-k),.bool (eK m h c)])) (j.setCell ⟨g,1,U⟩ (I J ((d-(dE m h c).length:Nat):Int))):=fun j f q b n k s t l hk v T h2=>by
  subst hk;have hd:(dE m h c).drop d=(dE m h c).drop (min d (dE m h c).length):=by
   rcases Nat.le_total d (dE m h c).length with e | e
   . rw[pN e]
   . rw[Nat.min_eq_right e,oO e,oO (ak _)]
  have hcut:=s.f.G (gL:=q) (min d (dE m h c).length) (dE m h c).length (Nat.min_le_right _ _) (ak _) T;rw[gF (by rw[cO];omega),<-hd] at hcut;refine .mk j q (b-min d (dE m h c).length) n rfl (by rw[hd,cO];exact v) rfl hcut (fun a e=>?_) t l;by_cases hc:b=min d (dE m h c).length
  . rw[h2 hc] at e;exact(s.a a e).1
  . rw[T hc] at e;cases f with
    | none=>cases e
    | some z=>simp at e;subst e;rw[oc];exact(s.a z rfl).1
 have x:=aa G;generalize hout:dE m h c=out at *;generalize hfd:eK m h c=fd at *;obtain⟨no,y⟩:∃no,out.length=no:=⟨_,rfl⟩;rw[y] at S D x;go_enter func370,ntmps370;go_wp2_with fail;refine S.o.mono ?_;rintro e j ⟨f,b,rfl,s,t,l⟩;have B:=HC j l;have hcap:no<=b:=by have:=s.f.1;rw[y] at this;exact this
 have r:f=U->b=0:=s.f.2.1;have u:=fun q n k=>x.o j f q b n k s t l;by_cases H:d<=no
 . have e1:min (d:Int) (no:Int)=d:=by omega
   have e2:d-no=0:=by omega
   have L:=pN H;rw[e2,L] at u;by_cases i:b=d
   . obtain rfl:no=d:=by omega
     subst i;go_wp2;go_ret2;have:=u f 0 b rfl (by omega) (fun e=>absurd rfl e) (fun _=>rfl);simpa using this
   . cases f with
     | none=>have:=r rfl;omega
     | some z =>
       go_wp2;go_ret2;exact u _ _ d rfl rfl (fun _=>rfl) (fun e=>absurd e i)
 . have e1:min (d:Int) (no:Int)=no:=by omega
   have L:min d no=no:=Nat.min_eq_right (by omega);have e4:((d-no:Nat):Int)=(d:Int)-no:=by omega
   rw[L,e4] at u;by_cases i:b=no
   . subst i;go_wp2;go_ret2;have:=u f 0 b rfl (by omega) (fun e=>absurd rfl e) (fun _=>rfl);simpa using this
   . cases f with
     | none=>have:=r rfl;omega
     | some z =>
       go_wp2;go_ret2;have:=u (M (z.add no)) 0 no rfl (by omega) (fun _=>rfl) (fun e=>absurd e i);simpa using this
