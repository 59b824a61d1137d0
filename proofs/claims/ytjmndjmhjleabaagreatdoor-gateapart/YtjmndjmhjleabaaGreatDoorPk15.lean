/- Small texts, one behind the other: MemG, MemUC, MemUD, MemVA, MemPr, MemUE. -/
import Derived.Test.YtjmndjmhjleabaaGreatDoorPk14
import Derived.Deep.AppendLies
import Derived.Test.YtjmndjmhjleabaaGreatDoorPk13
open Go.Value renaming int->I,string->V,slice->Z
open Go.IntKind renaming i64->J
open Go.Obj renaming cells->K
open Option renaming none->U,some->M
open Or renaming inl->A,inr->R
open Go renaming World->X
namespace Go.Proofs.YtjmndjmhjleabaaGreatDoor
open Go.RowKit
def jM (l:au)(bo:aj):Option Nat:=if l=[] then U else gK bo
section
variable {P:Program} (w:X)
theorem run_append_nothing (t c e:TypeId)(i:TypeInfo)(d:P.underlying t=M (.slice e))(f:P.info? e=M i)(bo b:aj)(n cap a:Nat)(g:n<=cap):
 (Builtin.append_ #[t,t] c #[Z bo n cap,Z b 0 a]).run P w=.ok (Z bo n cap) w:=by
 cases bo <;> cases b <;> simp[Builtin.append_,run_underlying d,sizeOf,typeInfo,f,Builtin.lenOf,Builtin.firstCells,loadCells,loadCellsFrom,storeCells,g]
theorem AX (t B e:TypeId)(i:TypeInfo)(C:P.underlying t=M (.slice e))(L:P.info? e=M i)(hz:i.zero=M (I .u8 0))(o:i.size=1)(p:i.bytes=1)
 {S:Nat->Prop} {bo N:aj} {gJ c n D:Nat} {l l2:au} (h:gY w S e bo gJ l) (hn:l.length=n) (hs:iG w N c l2) (O:l2.length=D) (hlen:n+D<=140737488355328) :
 ∃oF b w', (Builtin.append_ #[t, t] B #[Z bo n gJ, Z N D c]).run P w = .ok (Z oF (n + D) b) w' ∧
   gY w' (fun k=>jM l bo=M k∨w.heap.size<=k) e oF b (l++l2)∧Turns (fun k=>jM l bo=M k) w w':=by
 subst hn;subst O;by_cases q:l2=[]
 . subst q;refine⟨bo,gJ,w,?_,?_,Turns.refl _ _⟩
   . have hc:l.length<=gJ:=h.wZ.1;exact run_append_nothing w t B e i C L bo N l.length gJ c hc
   . rw[bV];rcases h with ⟨r,q,_⟩ | h
     . exact A ⟨r,q,fun a e=>A (by unfold jM;rw[if_neg r,e];rfl)⟩
     . exact R h
 . have m:0<l2.length:=fD.2 q;obtain⟨G,rfl⟩:=hs.some m;have d:∀j u,(ji l2)[j]? = M u->w.cell? (G.add j)=M u:=fun j u s=>by
    have hj:j<l2.length:=by
     have:=(aP.1 s).1;rwa[ig] at this
    rw[lQ l2 j hj] at s;injection s with s;subst s;exact hs.cell j hj
   rcases h with ⟨r,v,hm⟩ | ⟨rfl,rfl⟩
   . obtain⟨g,b,w',H,hO,hG,f,_⟩:=run_append_lies (P:=P) w t B 0 e i (I .u8 0) 1 1 C L hz o p rfl (by decide) (Z bo l.length gJ) l.length (ji l) v G l2.length c (ji l2) (by rw[ig];omega) d (wY l2) m (by unfold maxLen;omega) (by omega) (ay _) w.heap.size rfl;rw[gN] at hG f;have eB:jM l bo=gK bo:=by unfold jM;rw[if_neg r]
     refine⟨_,b,w',H,A ⟨by simp[r],?_,fun a e=>?_⟩,Turns.iY hG (fun k e=>by rw[eB];exact e)⟩
     . unfold iD;rw[qz,aV];exact hO
     . injection e with e;subst e;rcases f with f | f
       . exact A (by rw[eB];exact f)
       . exact R (by show w.heap.size<=g;omega)
   . have x:(Builtin.firstCells i.size 0 (Z bo 0 0)).run P w.drew=.ok ([]:List Value).toArray w.drew:=by
      cases bo <;> simp[Builtin.firstCells,loadCells,loadCellsFrom]
     have H:=run_append_grow_src (P:=P) w t t B e i (I .u8 0) C L hz bo 0 0 [] x (Z (M G) l2.length c) l2.length (ji l2) (by rw[o];exact Src.ofSlice _ C G _ c _ (by rw[ig];omega) d (wY l2)) (by omega) (by omega) (by rw[p];exact growslice_fits (by omega) (by omega));have T:=grownCap_ge w (0+l2.length) 0 e;have y:=grownCap_le_maxLen w (0+l2.length) 0 e (by unfold maxLen;omega);generalize grownCap w (0+l2.length) 0 e=b at H T y;refine⟨_,b,_,H,A ⟨by simpa using q,?_,fun a e=>?_⟩,⟨rfl,rfl,rfl,by simp,fun k hk _=>Below.heap_alloc w.drew _ k hk⟩⟩
     . rw[dx];have W:(Value.int IntKind.u8 0).cells.size=1:=rfl;have z:l2.length<=b:=by omega
       refine⟨by rw[ig];omega,.inr ⟨w.heap.size,b,_,by simp,ay _,fH w.drew _,z,y,?_,?_⟩⟩
       . simp only[Array.size_append,bL,ig,size_zeroCells,W];omega
       . simp only[Array.toList_append,dx,Nat.mul_one];rw[<-ig l2];exact List.take_left
     . injection e with e;subst e;exact R (aL _)
end
section
variable {P:Program} {w:X}
theorem vF {o:Oper}{a:Act}{q:Act->X->Prop}{u:Exit->Act->X->Prop}(s x:Operand)(t:TypeId)
 (v:o.op=.call { callee:=.builtin .append,args:=#[s,x],argTypes:=#[t,t] })
 (e:TypeId) (i:TypeInfo) (y:P.underlying t=M (.slice e)) (z:P.info? e=M i) (B:i.zero=M (I .u8 0)) (j:i.size=1) (m:i.bytes=1)
 {S:Nat->Prop} {bo r:aj} {gJ c n f:Nat} {l l2:au} (C:a.eval s=Z bo n gJ) (D:a.eval x=Z r f c) (G:gY w S e bo gJ l) (H:l.length=n) (L:iG w r c l2) (p:l2.length=f) (d:n+f<=140737488355328)
 (h:∀g b w',gY w' (fun k=>jM l bo=M k∨w.heap.size<=k) e g b (l++l2)->Turns (fun k=>jM l bo=M k) w w'->q (a.put o.dst (Z g (n+f) b)) w'):o.wp P a w q u:=by
 obtain⟨g,b,w',N,O,T⟩:=AX (P:=P) w t o.type e i y z B j m G H L p d;unfold Oper.wp execOp;simp only[v,resolve,invoke,builtin,Sem.run_bind,Sem.run_pure,Result.andThen_ok,List.map_toArray,List.map_cons,List.map_nil,C,D,N];exact h g b w' O T
theorem nC {d:Array Oper}{rest:List Oper}{o:Oper}{a:Act}{u:Exit->Act->X->Prop}(m:o.guard=U)(s x:Operand)(t:TypeId)
 (y:o.op=.call { callee:=.builtin .append,args:=#[s,x],argTypes:=#[t,t] })
 (e:TypeId) (i:TypeInfo) (z:P.underlying t=M (.slice e)) (B:P.info? e=M i) (C:i.zero=M (I .u8 0)) (p:i.size=1) (q:i.bytes=1)
 {S:Nat->Prop} {bo v:aj} {gJ c n g:Nat} {l l2:au} (D:a.eval s=Z bo n gJ) (G:a.eval x=Z v g c) (H:gY w S e bo gJ l) (L:l.length=n) (N:iG w v c l2) (r:l2.length=g) (f:n+g<=140737488355328)
 (h:∀j b w',gY w' (fun k=>jM l bo=M k∨w.heap.size<=k) e j b (l++l2)->Turns (fun k=>jM l bo=M k) w w'->wpList P d u rest (a.put o.dst (Z j (n+g) b)) w'):wpList P d u (o::rest) a w :=
 wpList_plain m fun _ O=>vF s x t y e i z B C p q D G H L N r f fun j b w' T W=>O _ _ (h j b w' T W)
theorem og {d:Array Oper}{o:Oper}{a:Act}{r:Act->X->Prop}{y:Exit->Act->X->Prop}{E:Prop}(j:o.guard=U)(s x:Operand)(t:TypeId)
 (z:o.op=.call { callee:=.builtin .append,args:=#[s,x],argTypes:=#[t,t] })
 (e:TypeId) (i:TypeInfo) (B:P.underlying t=M (.slice e)) (C:P.info? e=M i) (D:i.zero=M (I .u8 0)) (m:i.size=1) (p:i.bytes=1)
 {S:Nat->Prop} {bo u:aj} {gJ b n g:Nat} {l l2:au} (G:a.eval s=Z bo n gJ) (H:a.eval x=Z u g b) (L:gY w S e bo gJ l) (N:l.length=n) (O:iG w u b l2) (q:l2.length=g) (f:n+g<=140737488355328)
 (h:∀v c w',gY w' (fun k=>jM l bo=M k∨w.heap.size<=k) e v c (l++l2)->Turns (fun k=>jM l bo=M k) w w'->r (a.put o.dst (Z v (n+g) c)) w') :
 if Region.wanted o (yielded d a.tmps)=true then Oper.wp P o a w r y else E:=by
 have T:Region.wanted o (yielded d a.tmps)=true:=by simp[Region.wanted,j]
 rw[if_pos T];exact vF s x t z e i B C D m p G H L N O q f h
end
section
variable {w w':X} {S S' T:Nat->Prop} {t:Nat} {ao:aj} {cap:Nat} {l:au}
theorem gY.blk (h:gY w S t ao cap l){k:Nat}(e:jM l ao=M k):S k∧k<w.heap.size:=by
 unfold jM at e;split at e
 . cases e
 . rename_i b;rcases h with ⟨_,c,d⟩ | ⟨f,_⟩
   . cases ao with
     | none=>cases e
     | some a=>injection e with e;subst e;exact⟨d a rfl,(c.block a rfl).2⟩
   . exact absurd f b
theorem gY.over (h:gY w S t ao cap l)(f:Turns T w w')(g:∀k,S k->jM l ao=M k->k<w.heap.size->¬T k∧S' k):gY w' S' t ao cap l:=by
 rcases h with ⟨b,c,i⟩ | h
 . have d:∀a,ao=M a->¬T a.block∧S' a.block:=fun a e=>g _ (i a e) (by unfold jM;rw[if_neg b,e];rfl) (c.block a e).2;exact A ⟨b,c.turns f (fun a e=>(d a e).1),fun a e=>(d a e).2⟩
 . exact R h
theorem gY.to (h:gY w S t ao cap l)(d:∀k,S k->jM l ao=M k->k<w.heap.size->S' k):gY w S' t ao cap l:=h.over (Turns.refl (fun _=>False) w) (fun k a b c=>⟨fun e=>e,d k a b c⟩)
end
def yu (x:Sp.Up×yP):Option Nat:=jM x.1.bytes x.2.bo
def Apart (us:List (Sp.Up×yP)):Prop:=∀(i j:Nat) (x y:Sp.Up×yP),us[i]? = M x->us[j]? = M y->i≠j->∀k,yu x=M k->yu y≠M k
theorem vQ {a:Type}{x b:a}{n:Nat}(h:[x][n]? = M b):n=0∧b=x:=by
 cases n with
 | zero=>exact⟨rfl,by simpa using h.symm⟩
 | succ n=>simp at h
theorem Apart.nil:Apart []:=fun i j x y h=>by simp at h
theorem Apart.push {e:List (Sp.Up×yP)}{x:Sp.Up×yP}(h:Apart e)(n:∀y∈e,∀k,yu y=M k->yu x≠M k):Apart (e++[x]):=by
 intro i j a b ha c f k g l;rcases aT i e.length with m | m
 . rw[aX m] at ha;rcases aT j e.length with d | d
   . rw[aX d] at c;exact h i j a b ha c f k g l
   . rw[bq d] at c;obtain⟨_,rfl⟩:=vQ c;exact n a (dK ha) k g l
 . rw[bq m] at ha;obtain⟨o,rfl⟩:=vQ ha;rcases aT j e.length with d | d
   . rw[aX d] at c;exact n b (dK c) k l g
   . rw[bq d] at c;obtain⟨p,_⟩:=vQ c;omega
theorem Apart.set {d:List (Sp.Up×yP)}{x:Sp.Up×yP}(h:Apart d)(i:Nat)(m:∀j y,d[j]? = M y->j≠i->∀k,yu y=M k->yu x≠M k):Apart (d.set i x):=by
 intro a b p q ha c f k g l;rw[eu] at ha c;split at ha
 . rename_i n;split at c
   . rename_i o;omega
   . rename_i o;split at ha
     . injection ha with ha;subst ha;exact m b q c (fun e=>o e.symm) k l g
     . cases ha
 . rename_i n;split at c
   . split at c
     . injection c with c;subst c;exact m a p ha (fun e=>n e.symm) k g l
     . cases c
   . exact h a b p q ha c f k g l
theorem Apart.erase {g:List (Sp.Up×yP)}(h:Apart g)(i:Nat):Apart (g.eraseIdx i):=by
 intro a b p q ha c f k d e;rw[List.getElem?_eraseIdx] at ha c;split at ha <;> split at c
 . exact h a b p q ha c f k d e
 . exact h a (b+1) p q ha c (by omega) k d e
 . exact h (a+1) b p q ha c (by omega) k d e
 . exact h (a+1) (b+1) p q ha c (by omega) k d e
def qE (w:X)(S:Nat->Prop)(tU tB:Nat)(ao:aj)(cap:Nat)(l:List Sp.Up):Prop :=
 ∃us:List (Sp.Up×yP),us.map (·.1)=l∧gU w 0 tU 5 ao cap l.length (tL us)∧(∀a,ao=M a->S a.block)∧(∀x∈us,gY w (fun k=>S k∧gK ao≠M k) tB x.2.bo x.2.gJ x.1.bytes)∧Apart us
section
variable {w w' w1:X} {S S' N:Nat->Prop} {tU tB:Nat} {ao:aj} {cap:Nat} {l:List Sp.Up}
theorem qE.nil (w:X)(S:Nat->Prop)(tU tB:Nat):qE w S tU tB U 0 []:=⟨[],rfl,gU.nil _ _ _ _,fun a e=>(by cases e),fun p b=>(by cases b),Apart.nil⟩
theorem qE.at_ (h:qE w S tU tB ao cap l):K6 w S tU ao cap l:=by
 obtain⟨a,b,c,d,e,_⟩:=h;exact⟨a,b,c,d,fun x f=>(e x f).adW⟩
theorem qE.zK (h:qE w S tU tB ao cap l):pV w ao cap l:=h.at_.zK
theorem qE.cap_ (h:qE w S tU tB ao cap l):l.length<=cap:=by
 obtain⟨b,c,a,d,e,_⟩:=h;exact a.nP.1
theorem qE.turns (h:qE w S tU tB ao cap l)(b:Turns S' w w')(c:∀k,S k->¬S' k):qE w' S tU tB ao cap l:=by
 obtain⟨f,g,i,d,j,m⟩:=h;exact⟨f,g,i.turns b (fun a e=>c _ (d a e)),d,fun x n=>(j x n).turns b (fun k e=>c k e.1),m⟩
theorem qE.mono (h:qE w S tU tB ao cap l)(b:∀k,k<w.heap.size->S k->S' k):qE w S' tU tB ao cap l:=by
 obtain⟨d,f,c,g,i,j⟩:=h;exact⟨d,f,c,fun a e=>b _ (c.block a e).2 (g a e),fun x m=>(i x m).mono (fun k n e=>⟨b k n e.1,e.2⟩),j⟩
theorem qE.stay (h:qE w S tU tB ao cap l)(a:Below w.heap.size w w'):qE w' S tU tB ao cap l:=h.turns (Turns.of_below (S:=fun _=>False) a) (fun _ _ e=>e)
theorem BL {S:Nat->Prop}(b:∀a,ao=M a->S a.block):∀k,gK ao=M k->S k:=fun k e=>by
 cases ao with
 | none=>cases e
 | some a=>injection e with e;subst e;exact b a rfl
theorem qE.push {W:X}(h:qE W S tU tB ao cap l)(m:Obj):∃xs,gU (W.alloc m) 0 tU 5 ao cap l.length xs ∧
 ∀gV b w' (u:Sp.Up) (s:yP) (N:Nat->Prop),gY W N tB s.bo s.gJ u.bytes->(∀k,S k->¬N k)->gU w' 0 tU 5 gV b (l.length+1) (xs++vE u s)->(W.alloc m).grownBy w' (gK ao)->(gK gV=gK ao∨gK gV=M (W.alloc m).heap.size)->qE w' (fun k=>S k∨N k∨W.heap.size<=k) tU tB gV b (l++[u])∧Turns S W w':=by
 obtain⟨p,z,B,C,q,D⟩:=h;have r:Below W.heap.size W (W.alloc m):=(fI _ _).alloc (aL _) _;have n:=BL C;refine⟨tL p,B.stay r,fun gV b w' u s N t v G H d=>?_⟩;have o:Turns (fun k=>gK ao=M k) W w':=(Turns.of_below r).trans (Turns.iY H (fun k e=>e)) (fun _ e _=>e);have f:∀k,k<W.heap.size->gK ao≠M k->gK gV≠M k:=fun k c h e=>by
  rcases d with g | g
  . rw[g] at e;exact h e
  . rw[g,fV] at e;injection e with e;omega
 refine⟨⟨p++[(u,s)],by simp[z],by rw[uP,Zf,aV];exact G,fun a e=>?_,fun x i=>?_,D.push fun y L k O P=>v k ((q y L).blk O).1.1 (t.blk P).1⟩,o.mono (fun k e=>n k e)⟩
 . subst e;rcases d with g | g
   . exact A (n _ (g.symm.trans rfl))
   . rw[fV] at g;injection g with g;exact R (R (by omega))
 . rcases bA.1 i with i | i
   . exact(q x i).over o (fun k e _ c=>⟨e.2,A e.1,f k c e.2⟩)
   . rw[bB.1 i];have j:∀k,N k->gK ao≠M k:=fun k c e=>v k (n k e) c;exact t.over o (fun k e _ c=>⟨j k e,R (A e),f k c (j k e)⟩)
theorem qE.put {g i j:Nat}{v:Value}{u:Sp.Up}(h:qE w S tU tB (M ⟨g,0,U⟩) cap l)(B:i<l.length)(m:j<5)(C:∀s,(vE l[i] s).set j v=vE u s)(D:u.bytes=l[i].bytes):qE (w.setCell ⟨g,i*5+j,U⟩ v) S tU tB (M ⟨g,0,U⟩) cap (l.set i u)∧Turns (fun k=>k=g) w (w.setCell ⟨g,i*5+j,U⟩ v):=by
 obtain⟨a,rfl,G,H,o,p⟩:=h;have b:i<a.length:=by simpa using B
 have q:Turns (fun k=>k=g) w (w.setCell ⟨g,i*5+j,U⟩ v):=Turns.setCell (fun k=>k=g) w _ _ rfl;have c:u.bytes=a[i].1.bytes:=by rw[D,aF]
 have d:yu (u,a[i].2)=yu a[i]:=by unfold yu;simp only;rw[c]
 refine⟨⟨a.set i (u,a[i].2),by rw[List.map_set],?_,H,fun x f=>?_,p.set i fun j y n m k L r=>?_⟩,q⟩
 . have t:=(fU G (i*5+j) v).1;rw[Ec a i b j v (u,a[i].2) m (by have:=C a[i].2;rw[aF] at this;exact this)] at t;rw[aO];exact t
 . have z:∀y:Sp.Up×yP,gY w (fun k=>S k∧gK (M ⟨g,0,U⟩)≠M k) tB y.2.bo y.2.gJ y.1.bytes->gY (w.setCell ⟨g,i*5+j,U⟩ v) (fun k=>S k∧gK (M ⟨g,0,U⟩)≠M k) tB y.2.bo y.2.gJ y.1.bytes:=fun y n=>n.turns q (fun k e O=>e.2 (by subst O;rfl));rcases List.mem_or_eq_of_mem_set f with f | f
   . exact z x (o x f)
   . subst f;have:=z a[i] (o a[i] (aB b));show gY _ _ _ a[i].2.bo a[i].2.gJ u.bytes;rw[c];exact this
 . rw[d] at r;exact p j i y a[i] n (dB b) m k L r
theorem qE.lies (h:qE w S tU tB ao cap l)(i:Nat)(v:i<l.length):∃(g:Nat) (s:yP),ao=M ⟨g,0,U⟩∧S g∧g<w.heap.size∧w.cell? ⟨g,i*5,U⟩=M (I J l[i].id)∧w.cell? ⟨g,i*5+1,U⟩=M (I J l[i].size)∧w.cell? ⟨g,i*5+2,U⟩=M (V l[i].note)∧w.cell? ⟨g,i*5+3,U⟩=M (Z s.bo l[i].bytes.length s.gJ)∧w.cell? ⟨g,i*5+4,U⟩=M (I J l[i].sent)∧(∀j,w.frozen? ⟨g,j,U⟩=false)∧gY w (fun k=>S k∧k≠g) tB s.bo s.gJ l[i].bytes ∧
 ∀w1 o p bs n,gY w1 (fun k=>jM l[i].bytes s.bo=M k∨w.heap.size<=k) tB o p bs->Turns (fun k=>jM l[i].bytes s.bo=M k) w w1->n=bs.length->qE (w1.setCell ⟨g,i*5+3,U⟩ (Z o n p)) (gM S w) tU tB (M ⟨g,0,U⟩) cap (l.set i { l[i] with bytes:=bs })∧Turns S w (w1.setCell ⟨g,i*5+3,U⟩ (Z o n p)):=by
 have hU:=h.zK.at_ i v;obtain⟨g,hg,q,_,_⟩:=h.at_.row i v;subst hg;obtain⟨c,rfl,r,h3,z,B⟩:=h;have d:i<c.length:=by simpa using v
 have t:∀j,j<5->w.cell? ⟨g,i*5+j,U⟩=(vE c[i].1 c[i].2)[j]?:=fun j f=>by
  rw[fQ r (i*5+j) (by omega),uQ c i d j f]
 have hx:=z _ (aB d);have u:gY w (fun k=>S k∧k≠g) tB c[i].2.bo c[i].2.gJ c[i].1.bytes:=hx.to (fun k e _ _=>⟨e.1,fun m=>e.2 (by subst m;rfl)⟩);simp only[aF];refine⟨g,c[i].2,rfl,q,(r.block _ rfl).2,t 0 (by decide),t 1 (by decide),t 2 (by decide),t 3 (by decide),t 4 (by decide),fun j=>fT r j,u,fun w1 o p bs n H C hn=>?_⟩;subst hn;have b:∀k,jM c[i].1.bytes c[i].2.bo=M k->S k∧k≠g:=fun k e=>(u.blk e).1;have hgl:g<w.heap.size:=(r.block _ rfl).2;have jU:Turns S w (w1.setCell ⟨g,i*5+3,U⟩ (Z o bs.length p)):=(C.mono (fun k e=>(b k e).1)).trans (Turns.setCell S w1 _ _ q) (fun _ e _=>e);have L:Turns (fun k=>k=g) w1 (w1.setCell ⟨g,i*5+3,U⟩ (Z o bs.length p)):=Turns.setCell (fun k=>k=g) w1 _ _ rfl;have K8:gU w1 0 tU 5 (M ⟨g,0,U⟩) cap (c.map (·.1)).length (tL c):=r.turns C (fun a e h=>by injection e with e;subst e;exact(b _ h).2 rfl);refine⟨⟨c.set i ({ c[i].1 with bytes:=bs },⟨o,p⟩),by rw[List.map_set],?_,fun a e=>A (h3 a e),fun x D=>?_,B.set i fun j y O f k P kx=>?_⟩,jU⟩
 . have T:=(fU K8 (i*5+3) (Z o bs.length p)).1;rw[Ec c i d 3 _ ({ c[i].1 with bytes:=bs },⟨o,p⟩) (by decide) rfl] at T;rw[aO];exact T
 . obtain⟨j,f⟩:=List.getElem?_of_mem D;rw[eu] at f;split at f
   . rename_i e;first | rw[if_pos d] at f | skip
     injection f with f;subst f;refine(H.to (S':=fun k=>gM S w k∧k≠g) (fun k h _ _=>?_)).over L (fun k e _ _=>⟨e.2,e.1,fun m=>e.2 (by injection m with m;exact m.symm)⟩);rcases h with h | h
     . exact⟨A (b k h).1,(b k h).2⟩
     . exact⟨R h,by omega⟩
   . rename_i e;have hm:=dK f;have G:gY w1 (fun k=>S k∧k≠g) tB x.2.bo x.2.gJ x.1.bytes:=(z x hm).over C (fun k W m _=>⟨fun e3=>B j i x c[i] f (dB d) (fun e4=>e e4.symm) k m e3,W.1,fun e5=>W.2 (by subst e5;rfl)⟩);exact G.over L (fun k e _ _=>⟨e.2,A e.1,fun m=>e.2 (by injection m with m;exact m.symm)⟩)
 . rcases(H.blk kx).1 with e | e
   . exact B j i y c[i] O (dB d) f k P e
   . have:=((z y (dK O)).blk P).2;omega
theorem RZ (a:List (Sp.Up×yP))(i:Nat):tL (a.eraseIdx i)=tL (a.take i)++tL (a.drop (i+1)):=by rw[List.eraseIdx_eq_take_drop_succ,uP]
theorem qE.drop (h:qE w S tU tB ao cap l)(i:Nat)(m:i<l.length):∃c:List (Sp.Up×yP),c.length=l.length∧gU w 0 tU 5 ao cap l.length (tL c) ∧
 ∀w' gV b,gU w' 0 tU 5 gV b (l.length-1) (tL (c.eraseIdx i))->Turns (fun k=>gK ao=M k) w w'->(∀k,gK gV=M k->gK ao=M k∨w.heap.size<=k)->qE w' (gM S w) tU tB gV b (l.eraseIdx i)∧Turns S w w':=by
 obtain⟨c,rfl,n,o,p,q⟩:=h;have f:=BL o;refine⟨c,by simp,n,fun w' gV b r j d=>⟨⟨c.eraseIdx i,by simp[List.eraseIdx_eq_take_drop_succ,List.map_take,List.map_drop],?_,fun a e=>?_,fun x s=>?_,q.erase i⟩,j.mono f⟩⟩
 . rw[List.length_eraseIdx_of_lt m];exact r
 . subst e;rcases d _ rfl with g | g
   . exact A (f _ g)
   . exact R g
 . refine(p x (List.mem_of_mem_eraseIdx s)).over j (fun k e _ u=>⟨e.2,A e.1,fun t=>?_⟩);rcases d k t with g | g
   . exact e.2 g
   . omega
end
def zL:List Value->Nat->List Value->List Value
 | xs,_,[]=>xs
 | xs,o,v::vs=>zL (xs.set o v) (o+1) vs
theorem Ee:∀(a xs:List Value) (o j:Nat),(zL xs o a)[j]? = if o<=j∧j<o+a.length∧j<xs.length then a[j-o]? else xs[j]?
 | [], xs, o, j => by
   rw[zL,if_neg];simp only[bZ];omega
 | v :: a, xs, o, j => by
   rw[zL,Ee a (xs.set o v) (o+1) j,aO,aW];by_cases c:j=o
   . subst c;rw[if_neg (by omega),eu,if_pos rfl];by_cases d:j<xs.length
     . rw[if_pos d,if_pos (by omega),Nat.sub_self];rfl
     . rw[if_neg d,if_neg (by omega),eG (by omega)]
   . have b:¬o=j:=fun e=>c e.symm;rw[eu,if_neg b];by_cases f:o+1<=j∧j<o+1+a.length∧j<xs.length
     . rw[if_pos f,if_pos (by omega),show j-o=(j-(o+1))+1 by omega,List.getElem?_cons_succ]
     . rw[if_neg f,if_neg (by omega)]
theorem zM:∀(a xs:List Value) (o:Nat),(zL xs o a).length=xs.length
 | [],_,_=>rfl
 | v::a,xs,o=>by rw[zL,zM a,aO]
section
variable {w w':X} {S S':Nat->Prop} {t k g cap n:Nat} {xs:List Value}
theorem gU.lays:∀(a:List Value) (o:Nat) {xs:List Value} {w:X},gU w 0 t k (M ⟨g,0,U⟩) cap n xs->gU (w.setCells g o a) 0 t k (M ⟨g,0,U⟩) cap n (zL xs o a)
 | [],_,_,_,h=>h
 | v::a,o,xs,w,h=>by rw[World.setCells,zL];exact gU.lays a (o+1) (fU h o v).1
theorem mK (g:Nat):∀(a:List Value) (o:Nat) (w:X),Turns (fun k=>k=g) w (w.setCells g o a)
 | [],_,w=>Turns.refl _ w
 | v::a,o,w=>by rw[World.setCells];exact(Turns.setCell (fun k=>k=g) w _ _ rfl).trans (mK g a (o+1) _) (fun _ e _=>e)
theorem gU.less (h:gU w 0 t k (M ⟨g,0,U⟩) cap n xs)(m:Nat)(f:m<=n):gU w 0 t k (M ⟨g,0,U⟩) cap m (xs.take (m*k)):=by
 have r:=h.1;have b:m*k<=n*k:=Nat.mul_le_mul_right k f;refine⟨by rw[bX];omega,?_⟩;rcases h.2 with ⟨e,_⟩ | ⟨s,d,c,e,i,j,u,l,o,p⟩
 . simp at e
 . injection e with a v q;injection a with a;injection a with a;subst a;subst q;exact R ⟨g,cap,c,rfl,i,j,by omega,l,o,by rw[<-p,List.take_take,dU b]⟩
theorem gU.gone (h:gU w 0 t k (M ⟨g,0,U⟩) cap n xs)(i:Nat)(m:i<n)(b:List Value):gU ((w.setCells g (i*k) (xs.drop ((i+1)*k))).setCells g ((n-1)*k) b) 0 t k (M ⟨g,0,U⟩) cap (n-1) (xs.take (i*k)++xs.drop ((i+1)*k)):=by
 have o:=h.1;have d:=((h.lays (xs.drop ((i+1)*k)) (i*k)).lays b ((n-1)*k)).less (n-1) (by omega);have e:(i+1)*k=i*k+k:=Nat.succ_mul i k;have f:n*k=(n-1)*k+k:=by rw[<-Nat.succ_mul,show(n-1).succ=n by omega]
 have l:i*k<=(n-1)*k:=Nat.mul_le_mul_right k (by omega);refine(bD (gU _ 0 t k (M ⟨g,0,U⟩) cap (n-1)) ?_).mp d;refine List.ext_getElem? fun j=>?_;rw[List.getElem?_take,List.getElem?_append,bX,List.getElem?_take,List.getElem?_drop];by_cases c:j<(n-1)*k
 . rw[if_pos c,Ee,if_neg (by omega),Ee,bU];by_cases a:j<i*k
   . rw[if_neg (by omega),if_pos (by omega),if_pos a]
   . rw[if_pos (by omega),if_neg (by omega),List.getElem?_drop,dU (by omega)]
 . rw[if_neg c,if_neg (by omega),eG (by omega)]
end
theorem FW {P:Program}(w:X)(t e k:TypeId)(z:Value)(l:P.underlying t=M (.slice e))(m:∀w,(zeroValue e).run P w=.ok z w)(f:∀v∈z.cells.toList,v.oneCell'=true)(b o c:Nat)
 (n:∀j,j<z.cells.size->(w.cell? ⟨b,o+j,U⟩).isSome=true) (p:∀j,j<z.cells.size->w.frozen? ⟨b,o+j,U⟩=false) :
 (Builtin.clear_ #[t] k #[Z (M ⟨b,o,U⟩) 1 c]).run P w=.ok (.tuple #[]) (w.setCells b o z.cells.toList):=by
 have d:Builtin.zeroCells z.cells 1=z.cells:=by
  apply Array.ext
  . simp[Builtin.zeroCells]
  . intro i f g;simp[Builtin.zeroCells,Nat.mod_eq_of_lt g];exact getElem!_pos z.cells i g
 have a:=run_storeCells_cells (P:=P) b o z.cells.toList 0 w (by simpa using n) (by simpa using p) f;simp only[bJ] at a;simp[Builtin.clear_,run_underlying l,m,d,a]
def oh (w:X)(S:Nat->Prop)(tO tU tB g:Nat)(s:Sp.St):Prop:=∃ao cap,w.heap[g]? = M (K #[Z ao s.l.length cap,I J s.last] tO (0,0))∧S g∧qE w (fun k=>S k∧k≠g) tU tB ao cap s.l
section
variable {w w' w1:X} {S S' N:Nat->Prop} {tO tU tB g:Nat} {s:Sp.St}
theorem oh.turns (h:oh w S tO tU tB g s)(b:Turns S' w w')(c:∀k,S k->¬S' k):oh w' S tO tU tB g s:=by
 obtain⟨f,a,i,d,j⟩:=h;exact⟨f,a,b.row i (c g d),d,j.turns b (fun k e=>c k e.1)⟩
theorem oh.lt (h:oh w S tO tU tB g s):g<w.heap.size:=by
 obtain⟨c,a,b,d,e⟩:=h;exact(aK.1 b).1
theorem oh.mono (h:oh w S tO tU tB g s)(b:∀k,k<w.heap.size->S k->S' k):oh w S' tO tU tB g s:=by
 have c:=h.lt;obtain⟨d,a,f,i,j⟩:=h;exact⟨d,a,f,b g c i,j.mono (fun k l e=>⟨b k l e.1,e.2⟩)⟩
theorem oh.stay (h:oh w S tO tU tB g s)(a:Below w.heap.size w w'):oh w' S tO tU tB g s:=h.turns (Turns.of_below (S:=fun _=>False) a) (fun _ _ e=>e)
theorem oh.lay {v:Value}{last:Int}{a:List Sp.Up}{ao:aj}{cap n:Nat}(c:w1.heap[g]? = M (K #[v,I J last] tO (0,0)))(d:S g)(f:qE w1 (fun k=>S k∧k≠g) tU tB ao cap a)(i:n=a.length):oh (w1.setCell ⟨g,0,U⟩ (Z ao n cap)) S tO tU tB g ⟨a,last⟩∧Turns (fun k=>k=g) w1 (w1.setCell ⟨g,0,U⟩ (Z ao n cap)):=by
 subst i;have b:Turns (fun k=>k=g) w1 (w1.setCell ⟨g,0,U⟩ (Z ao a.length cap)):=Turns.setCell (fun k=>k=g) w1 _ _ rfl;exact⟨⟨ao,cap,fM w1 g 0 _ tO _ c,d,f.turns b (fun k e j=>e.2 j)⟩,b⟩
theorem oh.cells (h:oh w S tO tU tB g s):∃ao cap,w.cell? ⟨g,0,U⟩=M (Z ao s.l.length cap)∧w.cell? ⟨g,1,U⟩=M (I J s.last)∧w.frozen? ⟨g,0,U⟩=false∧w.frozen? ⟨g,1,U⟩=false∧w.heap[g]? = M (K #[Z ao s.l.length cap,I J s.last] tO (0,0))∧S g∧qE w (fun k=>S k∧k≠g) tU tB ao cap s.l:=by
 obtain⟨ao,cap,a,b,c⟩:=h;exact⟨ao,cap,fJ w g 0 _ _ _ a,fJ w g 1 _ _ _ a,fK w g 0 _ _ a,fK w g 1 _ _ a,a,b,c⟩
end
theorem NW (x y:av):∀u∈([V x,V y]:List Value),u.oneCell'=true:=fun u a=>by simp at a;rcases a with rfl | rfl <;> rfl
theorem prNew (W:X)(x y:av)(t:Nat){k:Nat}(a:W.heap.size=k):∀j u,([V x,V y]:List Value)[j]? = M u->(W.alloc (K #[V x,V y] t)).cell? (Addr.add ⟨k,0,U⟩ j)=M u:=fun j u b=>by
 rw[gH,aZ,World.cell?_alloc_at _ _ _ _ a.symm,dG];exact b
theorem aeb {a w5:X}{x y:av}{t:Nat}(h:Below (a.alloc (K #[V x,V y] t)).drew.heap.size (a.alloc (K #[V x,V y] t)).drew w5):∀j u,([V x,V y]:List Value)[j]? = M u->w5.cell? (Addr.add ⟨a.heap.size,0,U⟩ j)=M u:=fun j u c=>by
 have d:=prNew a x y t rfl j u c;have b:(a.alloc (K #[V x,V y] t)).drew.cell? (Addr.add ⟨a.heap.size,0,U⟩ j)=M u:=d;exact(h.cell (fZ _ _ b)).trans b
theorem Qx {c W d:X}{b t:Nat}{ao:aj}{cap n:Nat}{xs:List Value}{w5:X}(f:Below c.heap.size c W)(g:gU w5 b t 2 ao cap n xs)(i:W.grownBy d (Value.slice ao n cap).ownBlock)(j:c.heap.size<=b):Below c.heap.size c d :=
 f.grown i f.size (fun q e=>by
  rw[gN] at e;cases ao with
  | none=>cases e
  | some a=>injection e with e;subst e;have:=(g.block a rfl).1;omega)
def QJ:Sp.Up:=⟨0,0,⟨#[]⟩,[],0⟩
theorem Ti (n:Nat):(madeCells #[I J 0,I J 0,V ⟨#[]⟩,Z U 0 0,I J 0] (n*5)).toList=tL (List.replicate n (QJ,⟨U,0⟩)):=by
 refine List.ext_getElem? fun j=>?_;by_cases d:j<n*5
 . have c:j=(j / 5)*5+j % 5:=by omega
   have e:j / 5<n:=by omega
   have a:j % 5<5:=Nat.mod_lt _ (by decide);have b:=uQ (List.replicate n (QJ,⟨U,0⟩)) (j / 5) (by simpa using e) (j % 5) a;rw[<-c] at b;rw[b,Array.getElem?_toList];have f:(#[Value.int J 0,I J 0,V ⟨#[]⟩,Z U 0 0,I J 0]:Array Value).size=5:=rfl;simp only[madeCells,Array.getElem?_map,List.getElem_replicate];rw[Array.getElem?_range,if_pos d,f,Option.map_some];clear b c;generalize j % 5=r at a ⊢;match r,a with
   | 0,_=>rfl
   | 1,_=>rfl
   | 2,_=>rfl
   | 3,_=>rfl
   | 4,_=>rfl
 . rw[eG (by simp[madeCells];omega),eG (by rw[rR,List.length_replicate];omega)]
theorem L9:∀(b:List (Sp.Up×yP)) (i:Nat) (_:i<b.length) (x:Sp.Up×yP),(((((tL b).set (i*5) (I J x.1.id)).set (i*5+1) (I J x.1.size)).set (i*5+2) (V x.1.note)).set (i*5+3) (Z x.2.bo x.1.bytes.length x.2.gJ)).set (i*5+4) (I J x.1.sent)=tL (b.set i x)
 | p::t,0,_,x=>rfl
 | p :: t, i + 1, hi, x => by
   have c:=L9 t i (by simpa using hi) x;have e:∀(a:List Value) (k:Nat) (v:Value),(vE p.1 p.2++a).set ((i+1)*5+k) v=vE p.1 p.2++a.set (i*5+k) v:=fun a k v=>by
    rw[bH _ _ (by rw[show(vE p.1 p.2).length=5 from rfl];omega),show(vE p.1 p.2).length=5 from rfl,show(i+1)*5+k-5=i*5+k by omega]
   have d:∀(a:List Value) (v:Value),(vE p.1 p.2++a).set ((i+1)*5) v=vE p.1 p.2++a.set (i*5) v:=fun a v=>e a 0 v;show(((((vE p.1 p.2++tL t).set ((i+1)*5) _).set _ _).set _ _).set _ _).set _ _=vE p.1 p.2++tL (t.set i x);rw[d,e,e,e,e,c]
section
variable {w w':X} {S N:Nat->Prop} {tU tB g cap n:Nat} {l:List Sp.Up}
theorem qE.zeros (h:gU w 0 tU 5 (M ⟨g,0,U⟩) cap n (tL (List.replicate n (QJ,⟨U,0⟩))))(d:S g):qE w S tU tB (M ⟨g,0,U⟩) cap (List.replicate n QJ):=by
 refine⟨List.replicate n (QJ,⟨U,0⟩),by simp,by rw[List.length_replicate];exact h,fun a e=>by injection e with e;subst e;exact d,fun x b=>?_,fun i j x y b f _ k c=>?_⟩
 . rw[List.eq_of_mem_replicate b];exact gY.nil _ _ _
 . rw[List.eq_of_mem_replicate (dK b)] at c;simp[yu,jM,QJ] at c
theorem qE.ah2 {i:Nat}{u:Sp.Up}{bo:aj}{gJ f:Nat}(h:qE w S tU tB (M ⟨g,0,U⟩) cap l)(C:i<l.length)(s:gY w N tB bo gJ u.bytes)(m:∀k,N k->¬S k)(o:f=u.bytes.length):
 qE (((((w.setCell ⟨g,i*5,U⟩ (I J u.id)).setCell ⟨g,i*5+1,U⟩ (I J u.size)).setCell ⟨g,i*5+2,U⟩ (V u.note)).setCell ⟨g,i*5+3,U⟩ (Z bo f gJ)).setCell ⟨g,i*5+4,U⟩ (I J u.sent)) (fun k=>S k∨N k) tU tB (M ⟨g,0,U⟩) cap (l.set i u) ∧
 Turns (fun k=>k=g) w (((((w.setCell ⟨g,i*5,U⟩ (I J u.id)).setCell ⟨g,i*5+1,U⟩ (I J u.size)).setCell ⟨g,i*5+2,U⟩ (V u.note)).setCell ⟨g,i*5+3,U⟩ (Z bo f gJ)).setCell ⟨g,i*5+4,U⟩ (I J u.sent)):=by
 subst o;obtain⟨p,rfl,D,t,v,G⟩:=h;have q:i<p.length:=by simpa using C
 have r:=mK g [I J u.id,I J u.size,V u.note,Z bo u.bytes.length gJ,I J u.sent] (i*5) w;have z:=(fU (fU (fU (fU (fU D (i*5) (I J u.id)).1 (i*5+1) (I J u.size)).1 (i*5+2) (V u.note)).1 (i*5+3) (Z bo u.bytes.length gJ)).1 (i*5+4) (I J u.sent)).1;have B:=L9 p i q (u,⟨bo,gJ⟩);simp only at B;rw[B] at z;refine⟨⟨p.set i (u,⟨bo,gJ⟩),by rw[List.map_set],by rw[aO];exact z,fun a e=>A (t a e),fun x c=>?_,G.set i fun j y H _ k L O=>?_⟩,r⟩
 . have d:=t _ rfl;rcases List.mem_or_eq_of_mem_set c with c | c
   . exact(v x c).over r (fun k e _ _=>⟨fun b=>e.2 (by subst b;rfl),A e.1,e.2⟩)
   . subst c;exact s.over r (fun k e _ _=>⟨fun b=>m k e (by subst b;exact d),R e,fun b=>m k e (by injection b with b;subst b;exact d)⟩)
 . exact m k (s.blk O).1 ((v y (dK H)).blk L).1.1
end
theorem Tj (l:List Sp.Up)(k:Nat)(b:k<l.length):(l.take k++List.replicate (l.length-k) QJ).set k l[k]=l.take (k+1)++List.replicate (l.length-(k+1)) QJ:=by
 have e:l.length-k=(l.length-(k+1))+1:=by omega
 have a:(l.take k).length=k:=by rw[bX];omega
 rw[e,List.replicate_succ,bH _ _ (by omega),a,Nat.sub_self,dZ,bN b,dS];rfl
end Go.Proofs.YtjmndjmhjleabaaGreatDoor