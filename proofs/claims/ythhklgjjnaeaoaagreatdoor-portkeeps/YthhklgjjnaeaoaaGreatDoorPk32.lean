/- Small texts, one behind the other: RfMedA, TuM, RfMTxA, FmB, RfChB, RfLen. -/
import Derived.Test.YthhklgjjnaeaoaaGreatDoorRfChunks
open Go.Value renaming int->I,string->V,slice->Z,pointer->Q
open Go.IntKind renaming i64->J
open Go.Ending renaming returned->Y
open Option renaming none->U,some->M
open Go renaming World->X
set_option maxHeartbeats 1600000
open Go.Proofs.Tryz
namespace Go.Proofs.YthhklgjjnaeaoaaGreatDoor
open Go.RowKit
def Wx (m:Nat ⊕ (av×List Pm.rT))(word:ay)(ps:au)(code:Nat):Prop :=
 match m with
 | .inl c=>code=c∧word=⟨#[]⟩∧ps=[]
 | .inr x=>code=0∧word.data.toList=x.1∧lD ps=x.2
def uz (w:X)(m:Nat ⊕ (av×List Pm.rT))(e:Ending)(w':X):Prop :=
 ∃word ps ao cap,∃code:Nat,e=Y (.tuple #[.agg #[V word,Z ao ps.length cap],I J (code:Int)])∧Wx m word ps code∧gH w' w.heap.size 240 2 ao cap ps.length (gG ps)∧Below w.heap.size w w'
theorem uz.bad {w w':X}{m:Nat ⊕ (av×List Pm.rT)}{c:Nat}(a:m=.inl c)(b:Below w.heap.size w w'):uz w m (Y (.tuple #[.agg #[V ⟨#[]⟩,Z U 0 0],I J (c:Int)])) w':=by
 subst a;exact⟨⟨#[]⟩,[],U,0,c,rfl,⟨rfl,rfl,rfl⟩,gH.nil _ _ _ _,b⟩
section
end
structure BoxM (w:X)(wd:ay)(ao:ak)(n cap:Nat)(wr:X):Prop where
 box:wr.heap[w.heap.size]? = M (.cells #[V wd,Z ao n cap] 206 (0,0))
 below:Below w.heap.size w wr
section
variable {w wr w':X} {wd:ay} {ao:ak} {n cap:Nat}
theorem BoxM.size (h:BoxM w wd ao n cap wr):w.heap.size<wr.heap.size:=(aL.1 h.box).1
theorem BoxM.keep (h:BoxM w wd ao n cap wr)(a:Below wr.heap.size wr w'):BoxM w wd ao n cap w':=by
 have b:=h.size;exact⟨(a.block _ b).trans h.box,h.below.trans (a.mono (by omega))⟩
theorem BoxM.start (w:X)(wd:ay)(ao:ak)(n cap:Nat):BoxM w wd ao n cap (w.alloc (.cells #[V wd,Z ao n cap] 206)):=⟨eX w _,(eY _ _).alloc (aM _) _⟩
theorem BoxM.cells (h:BoxM w wd ao n cap wr):wr.cell? ⟨w.heap.size,0,U⟩=M (V wd)∧wr.cell? ⟨w.heap.size,1,U⟩=M (Z ao n cap):=⟨eZ wr _ 0 _ _ _ h.box,eZ wr _ 1 _ _ _ h.box⟩
end
theorem Xh (w:X)(p:Nat)(c:UInt8)(t:p=1∨p=2∨p=3∨p=4):
 Calls prog 343 #[I J (p:Int),I .u8 c.toNat] w fun e w'=>e=Y (.tuple #[I J ((Fm.turn p c).1:Int),I J ((Fm.turn p c).2:Int)])∧w'=w:=by
 have T:∀d:UInt8,((c.toNat:Int)==(d.toNat:Int))=decide (c=d):=fun d=>by
  rw[aH,aS,bP];constructor
  . intro e;exact dM.1 (by omega)
  . intro e;rw[e]
 have n:((c.toNat:Int)==10)=decide (c=10):=T 10;have q:((c.toNat:Int) != 10)=!decide (c=10):=by rw[<-n];rfl
 have j:((c.toNat:Int)==45)=decide (c=45):=T 45;have g:((c.toNat:Int)==32)=decide (c=32):=T 32;have s:((c.toNat:Int)==9)=decide (c=9):=T 9;have k:((c.toNat:Int)==13)=decide (c=13):=T 13;have u:∃x y:Nat,Fm.turn p c=(x,y):=⟨_,_,rfl⟩;obtain⟨x,y,r⟩:=u;have i:=H9 r;rw[r];unfold Fm.turn at i;generalize (c.toNat:Int)=v at *;rcases t with rfl | rfl | rfl | rfl
 . have f:Hid ((if c=45 then (2,0) else if c=32∨c=9 then (3,0) else if c=13 then (4,0) else (0,5))=(x,y)):=by
    have:=i.o;rw[if_neg (by decide),if_neg (by decide)] at this;unfold Hid;simpa using this
   by_cases a:c=45
   . obtain⟨rfl,rfl⟩:2=x∧0=y:=by have:=f.o;rw[if_pos a] at this;simpa using this
     rw[aI a] at j;go_enter func343,ntmps343;go_wp2;go_ret2;exact⟨rfl,rfl⟩
   . rw[aJ a] at j;by_cases b:c=32∨c=9
     . obtain⟨rfl,rfl⟩:3=x∧0=y:=by have:=f.o;rw[if_neg a,if_pos b] at this;simpa using this
       rcases b with b | b
       . rw[aI b] at g;go_enter func343,ntmps343;go_wp2;go_ret2;exact⟨rfl,rfl⟩
       . rw[aJ (by rw[b];decide)] at g;rw[aI b] at s;go_enter func343,ntmps343;go_wp2;go_ret2;exact⟨rfl,rfl⟩
     . rw[aJ (fun e=>b (Or.inl e))] at g;rw[aJ (fun e=>b (Or.inr e))] at s;by_cases l:c=13
       . obtain⟨rfl,rfl⟩:4=x∧0=y:=by have:=f.o;rw[if_neg a,if_neg b,if_pos l] at this;simpa using this
         rw[aI l] at k;go_enter func343,ntmps343;go_wp2;go_ret2;exact⟨rfl,rfl⟩
       . obtain⟨rfl,rfl⟩:0=x∧5=y:=by have:=f.o;rw[if_neg a,if_neg b,if_neg l] at this;simpa using this
         rw[aJ l] at k;go_enter func343,ntmps343;go_wp2;go_ret2;exact⟨rfl,rfl⟩
 . have f:(if c=45 then (6,0) else (0,5))=(x,y):=by
    have:=i.o;rw[if_neg (by decide),if_pos rfl] at this;exact this
   by_cases a:c=45
   . obtain⟨rfl,rfl⟩:6=x∧0=y:=by have:=f;rw[if_pos a] at this;simpa using this
     rw[aI a] at j;go_enter func343,ntmps343;go_wp2;go_ret2;exact⟨rfl,rfl⟩
   . obtain⟨rfl,rfl⟩:0=x∧5=y:=by have:=f;rw[if_neg a] at this;simpa using this
     rw[aJ a] at j;go_enter func343,ntmps343;go_wp2;go_ret2;exact⟨rfl,rfl⟩
 . have f:(if c=32∨c=9 then (3,0) else if c=13 then (4,0) else (0,5))=(x,y):=by
    have:=i.o;rw[if_neg (by decide),if_neg (by decide),if_neg (fun e=>by have:=e.1;omega)] at this;exact this
   by_cases b:c=32∨c=9
   . obtain⟨rfl,rfl⟩:3=x∧0=y:=by have:=f;rw[if_pos b] at this;simpa using this
     rcases b with b | b
     . rw[aI b] at g;go_enter func343,ntmps343;go_wp2;go_ret2;exact⟨rfl,rfl⟩
     . rw[aJ (by rw[b];decide)] at g;rw[aI b] at s;go_enter func343,ntmps343;go_wp2;go_ret2;exact⟨rfl,rfl⟩
   . rw[aJ (fun e=>b (Or.inl e))] at g;rw[aJ (fun e=>b (Or.inr e))] at s;by_cases l:c=13
     . obtain⟨rfl,rfl⟩:4=x∧0=y:=by have:=f;rw[if_neg b,if_pos l] at this;simpa using this
       rw[aI l] at k;go_enter func343,ntmps343;go_wp2;go_ret2;exact⟨rfl,rfl⟩
     . obtain⟨rfl,rfl⟩:0=x∧5=y:=by have:=f;rw[if_neg b,if_neg l] at this;simpa using this
       rw[aJ l] at k;go_enter func343,ntmps343;go_wp2;go_ret2;exact⟨rfl,rfl⟩
 . have f:(if c=10 then (5,0) else (0,2))=(x,y):=by
    have:=i.o;rw[if_pos rfl] at this;exact this
   by_cases m:c=10
   . obtain⟨rfl,rfl⟩:5=x∧0=y:=by have:=f;rw[if_pos m] at this;simpa using this
     rw[aI m] at n q;go_enter func343,ntmps343;go_wp2;go_ret2;exact⟨rfl,rfl⟩
   . obtain⟨rfl,rfl⟩:0=x∧2=y:=by have:=f;rw[if_neg m] at this;simpa using this
     rw[aJ m] at n q;go_enter func343,ntmps343;go_wp2;go_ret2;exact⟨rfl,rfl⟩
theorem Tn (w:X)(g:Nat)(fo:ak)(nf fZ:Nat)(a:w.cell? ⟨g,3,U⟩=M (Z fo nf fZ))(b:w.frozen? ⟨g,3,U⟩=false):
 Calls prog 353 #[Q (M ⟨g,2,U⟩)] w fun e w'=>e=Y (Z fo nf fZ)∧w'=w.setCell ⟨g,3,U⟩ (Z U 0 0):=by
 go_enter func353,ntmps353;go_wp2;go_ret;exact⟨rfl,rfl⟩
theorem Tp {m:av}(c:m.take 2=[13,10])(g:3<=m.length):Sk.after m 0 13=1∧Sk.after m 1 10=2:=by
 have a:m.take 1=[13]:=by
  have:=bC (List.take 1) c;rw[List.take_take] at this;simpa using this
 have d:Sk.fit m 0 13=1:=by
  refine Sk.ng.best ⟨by omega,by rw[a];exact List.suffix_refl _,fun k e _ b=>?_⟩;have:=b.length_le;rw[bW] at this;simp at this;omega
 have f:Sk.fit m 1 10=2:=by
  refine Sk.ng.best ⟨by omega,by rw[c,a];exact List.suffix_refl _,fun k e _ b=>?_⟩;have:=b.length_le;rw[bW] at this;simp at this;omega
 constructor
 . unfold Sk.after Sk.found;rw[d];simp;omega
 . unfold Sk.after Sk.found;rw[f];simp;omega
theorem xG (w:X)(g gs:Nat)(m:av)(p:Ox)(v:Value)(s:w.cell? ⟨g,0,U⟩=M (Q (M ⟨gs,0,U⟩)))(c1:w.cell? ⟨g,1,U⟩=M v)(f1:w.frozen? ⟨g,1,U⟩=false)(t:g≠gs)(u:mq w gs m 0 p)(x:m.take 2=[13,10])(S:3<=m.length)(hL:m.length<=1000000):
 Calls prog 277 #[Q (M ⟨g,0,U⟩)] w fun e w'=>∃y,e=Y (.tuple #[])∧w'=y.setCell ⟨g,1,U⟩ (I J 2)∧mq y gs m 2 p∧w.grownBy y (M gs):=by
 have T:=Tp x S;have q:=H9 u;have z:∀W,w.grownBy W (M gs)->W.cell? ⟨g,0,U⟩=M (Q (M ⟨gs,0,U⟩))∧W.cell? ⟨g,1,U⟩=M v∧W.frozen? ⟨g,1,U⟩=false:=fun W n=>by
  have B:(M g:Option Nat)≠M gs:=fun e=>t (by injection e);refine⟨n.cell s B,n.cell c1 B,?_⟩;rw[fP (a:=⟨g,1,U⟩) (n.block g (fH w _ s) B)];exact f1
 have C:3<=m.length∧m.length<=1000000:=⟨S,hL⟩;go_enter func277,ntmps277;go_wp2;go_loopw [3] (fun D wr=>∃k:Nat,k<=2∧D=I J k∧mq wr gs m k p∧w.grownBy wr (M gs)) (fun D _=>2-(intOf D).toNat)
 case atStart=>exact⟨0,by omega,rfl,q.o,⟨rfl,rfl,rfl,aM _,fun _ _ _=>rfl⟩⟩
 case round =>
  obtain⟨k,hk,rfl,u,n⟩:=hrel;have q:=u;have G:=H9 n
  have s:=z wr n;by_cases x:k=2
  . subst x;go_wp2;go_end0
    exact⟨wr,rfl,rfl,q,G.o⟩
  . by_cases h0:k=0
    . subst h0;have f:=fun(W:X) (H:mq W gs m 0 p)=>Am W gs m 0 13 p H (aA _) C.2;rw[T.1] at f;generalize (Sk.out m 0 13)=oo at f;generalize (Sk.found m 0 13)=ff at f;have i:=q.stay (gy _ _);go_wp2;go_region_held3 (fun w'=>w'.cell? ⟨g,0,U⟩=M (Q (M ⟨gs,0,U⟩))) (go_keep) (first | (go_at_call 313;refine(f _ i).mono ?_;rintro e w2 ⟨gJ,r,rfl,L,c,d⟩;have b:=jM G.o (jM (qD _ _) d);have N:=(z _ b).1;have j:=H9 c;have l:=H9 b;clear L c d b))
      all_goals
       go_wp2;go_roundw
       case rel=>exact⟨1,by omega,by go_num,j.o,l.o⟩
       case measure=>simp[intOf]
    . obtain rfl:k=1:=by omega
      have f:=fun(W:X) (H:mq W gs m 1 p)=>Am W gs m 1 10 p H (by have:=C.1;omega) C.2;rw[T.2] at f;generalize (Sk.out m 1 10)=oo at f;generalize (Sk.found m 1 10)=ff at f;have i:=q.stay (gy _ _);go_wp2;go_region_held3 (fun w'=>w'.cell? ⟨g,0,U⟩=M (Q (M ⟨gs,0,U⟩))) (go_keep) (first | (go_at_call 313;refine(f _ i).mono ?_;rintro e w2 ⟨gJ,r,rfl,L,c,d⟩;have b:=jM G.o (jM (qD _ _) d);have N:=(z _ b).1;have j:=H9 c;have l:=H9 b;clear L c d b))
      all_goals
       go_wp2;go_roundw
       case rel=>exact⟨2,by omega,by go_num,j.o,l.o⟩
       case measure=>simp[intOf]
inductive aax (w:X)(g gs ah:Nat)(m:av)(h:Nat)(c:UInt8)(p:Ox)(e:Ending)(w':X):Prop
 | mk (w1:X) (ao:ak) (cap n:Nat) (he:e=Y (.tuple #[Z ao n cap,.bool (Sk.found m h c)])) (hn:n=((Sk.out m h c).drop ah).length) (hw:w'=w1.setCell ⟨g,1,U⟩ (I J ((ah-(Sk.out m h c).length:Nat):Int))) (hB:gN w1 ao cap ((Sk.out m h c).drop ah)) (hlo:∀a,ao=M a->w.heap.size<=a.block) (hS:mq w1 gs m (Sk.after m h c) p) (hG:w.grownBy w1 (M gs))
theorem Eo (w:X)(g gs d:Nat)(m:av)(h:Nat)(c:UInt8)(p:Ox)(B:w.cell? ⟨g,0,U⟩=M (Q (M ⟨gs,0,U⟩)))(c1:w.cell? ⟨g,1,U⟩=M (I J (d:Int)))(f1:w.frozen? ⟨g,1,U⟩=false)(C:g≠gs)(hS:mq w gs m h p)(N:h<=m.length-1)(hL:m.length<=1000)(ha:d<=1000):
 Calls prog 339 #[Q (M ⟨g,0,U⟩),I .u8 c.toNat] w fun e w'=>aax w g gs d m h c p e w':=by
 have S:=H9 (Am w gs m h c p hS N (by omega));have D:=Fm.xR m h c N;have HC:∀W,w.grownBy W (M gs)->W.cell? ⟨g,0,U⟩=M (Q (M ⟨gs,0,U⟩))∧W.cell? ⟨g,1,U⟩=M (I J (d:Int))∧W.frozen? ⟨g,1,U⟩=false:=fun W l=>by
  have v:(M g:Option Nat)≠M gs:=fun e=>C (by injection e);refine⟨l.cell B v,l.cell c1 v,?_⟩;rw[fP (a:=⟨g,1,U⟩) (l.block g (fH w _ B) v)];exact f1
 have G:∀(j:X) (f q:ak) (b n k:Nat),iA j w.heap.size 5 f b (Sk.out m h c)->mq j gs m (Sk.after m h c) p->w.grownBy j (M gs)->k=min d (Sk.out m h c).length->n=(Sk.out m h c).length-k->(b≠k->q=f.map (·.add k))->(b=k->q=f)->aax w g gs d m h c p (Y (.tuple #[Z q n (b-k),.bool (Sk.found m h c)])) (j.setCell ⟨g,1,U⟩ (I J ((d-(Sk.out m h c).length:Nat):Int))):=fun j f q b n k s t l hk v T h2=>by
  subst hk;have hd:(Sk.out m h c).drop d=(Sk.out m h c).drop (min d (Sk.out m h c).length):=by
   rcases Nat.le_total d (Sk.out m h c).length with e | e
   . rw[dP e]
   . rw[Nat.min_eq_right e,aK e,aK (aM _)]
  have hcut:=s.tQ.cut (gJ:=q) (min d (Sk.out m h c).length) (Sk.out m h c).length (Nat.min_le_right _ _) (aM _) T;rw[dJ (by rw[bT];omega),<-hd] at hcut;refine .mk j q (b-min d (Sk.out m h c).length) n rfl (by rw[hd,bT];exact v) rfl hcut (fun a e=>?_) t l;by_cases hc:b=min d (Sk.out m h c).length
  . rw[h2 hc] at e;exact(s.block a e).1
  . rw[T hc] at e;cases f with
    | none=>cases e
    | some z=>simp at e;subst e;rw[add_block];exact(s.block z rfl).1
 have x:=H9 G;generalize hout:Sk.out m h c=out at *;generalize Zw:Sk.found m h c=fd at *;obtain⟨no,y⟩:∃no,out.length=no:=⟨_,rfl⟩;rw[y] at S D x;go_enter func339,ntmps339;go_wp2_with fail
 refine S.o.mono ?_;rintro e j ⟨f,b,rfl,s,t,l⟩;have B:=HC j l;have hcap:no<=b:=by have:=s.tQ.1;rw[y] at this;exact this
 have r:f=U->b=0:=s.tQ.2.1;have u:=fun q n k=>x.o j f q b n k s t l;by_cases H:d<=no
 . have e1:min (d:Int) (no:Int)=d:=by omega
   have e2:d-no=0:=by omega
   have L:=dP H;rw[e2,L] at u;by_cases i:b=d
   . obtain rfl:no=d:=by omega
     subst i;go_wp2;go_ret2;have:=u f 0 b rfl (by omega) (fun e=>absurd rfl e) (fun _=>rfl);simpa using this
   . cases f with
     | none=>have:=r rfl;omega
     | some z =>
       go_wp2;go_ret2;exact u _ _ d rfl rfl (fun _=>rfl) (fun e=>absurd e i)
 . have e1:min (d:Int) (no:Int)=no:=by omega
   have L:min d no=no:=Nat.min_eq_right (by omega);have e4:((d-no:Nat):Int)=(d:Int)-no:=by omega
   rw[L,e4] at u;by_cases i:b=no
   . subst i;go_wp2;go_ret2;have:=u f 0 b rfl (by omega) (fun e=>absurd rfl e) (fun _=>rfl);simpa using this
   . cases f with
     | none=>have:=r rfl;omega
     | some z =>
       go_wp2;go_ret2;have:=u (M (z.add no)) 0 no rfl (by omega) (fun _=>rfl) (fun e=>absurd e i);simpa using this
end Go.Proofs.YthhklgjjnaeaoaaGreatDoor