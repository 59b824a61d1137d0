import Derived.Test.YtmbghcpcbdjfoaaGreatDoorPk11
import Derived.Deep.AppendLies
import Derived.Test.YtmbghcpcbdjfoaaGreatDoorPk10
open Go.Value renaming int->I,string->V,slice->Z
open Go.IntKind renaming i64->J
open Go.Obj renaming cells->K
open Option renaming none->U,some->M
open Or renaming inl->A,inr->R
open Go renaming World->X
namespace Go.Proofs.YtmbghcpcbdjfoaaGreatDoor
open Go.RowKit
def ct (l:ae)(bo:ai):Option Nat:=if l=[] then U else au bo
section
variable {P:Program} (w:X)
theorem Vd (t c e:TypeId)(i:TypeInfo)(d:P.underlying t=M (.slice e))(f:P.info? e=M i)(bo b:ai)(n cap a:Nat)(g:n<=cap):
 (Builtin.append_ #[t,t] c #[Z bo n cap,Z b 0 a]).run P w=.ok (Z bo n cap) w:=by
 cases bo <;> cases b <;> simp[Builtin.append_,run_underlying d,sizeOf,typeInfo,f,Builtin.lenOf,Builtin.firstCells,loadCells,loadCellsFrom,storeCells,g]
theorem IZ (t B e:TypeId)(i:TypeInfo)(C:P.underlying t=M (.slice e))(L:P.info? e=M i)(hz:i.zero=M (I .u8 0))(o:i.size=1)(p:i.bytes=1)
 {S:Nat->Prop} {bo N:ai} {gF c n D:Nat} {l l2:ae} (h:bM w S e bo gF l) (hn:l.length=n) (hs:ay w N c l2) (T:l2.length=D) (hlen:n+D<=140737488355328) :
 ∃oZ b w', (Builtin.append_ #[t, t] B #[Z bo n gF, Z N D c]).run P w = .ok (Z oZ (n + D) b) w' ∧
   bM w' (fun k=>ct l bo=M k∨w.heap.size<=k) e oZ b (l++l2)∧al (fun k=>ct l bo=M k) w w':=by
 subst hn;subst T;by_cases q:l2=[]
 . subst q;refine⟨bo,gF,w,?_,?_,al.r _ _⟩
   . have hc:l.length<=gF:=h.f.1;exact Vd w t B e i C L bo N l.length gF c hc
   . rw[eN];rcases h with ⟨r,q,_⟩ | h
     . exact A ⟨r,q,fun a e=>A (by unfold ct;rw[if_neg r,e];rfl)⟩
     . exact R h
 . have m:0<l2.length:=kH.2 q;obtain⟨G,rfl⟩:=hs.mq m;have d:∀j u,(bD l2)[j]? = M u->w.cell? (G.add j)=M u:=fun j u s=>by
    have hj:j<l2.length:=by
     have:=(fB.1 s).1;rwa[dN] at this
    rw[lI l2 j hj] at s;injection s with s;subst s;exact hs.q j hj
   rcases h with ⟨r,v,hm⟩ | ⟨rfl,rfl⟩
   . obtain⟨g,b,w',H,hO,hG,f,_⟩:=run_append_lies (P:=P) w t B 0 e i (I .u8 0) 1 1 C L hz o p rfl (by decide) (Z bo l.length gF) l.length (bD l) v G l2.length c (bD l2) (by rw[dN];omega) d (wP l2) m (by unfold maxLen;omega) (by omega) (ax _) w.heap.size rfl;rw[dI] at hG f;have eB:ct l bo=au bo:=by unfold ct;rw[if_neg r]
     refine⟨_,b,w',H,A ⟨by simp[r],?_,fun a e=>?_⟩,al.q hG (fun k e=>by rw[eB];exact e)⟩
     . unfold bC;rw[tT,aF];exact hO
     . injection e with e;subst e;rcases f with f | f
       . exact A (by rw[eB];exact f)
       . exact R (by show w.heap.size<=g;omega)
   . have x:(Builtin.firstCells i.size 0 (Z bo 0 0)).run P w.drew=.ok ([]:List Value).toArray w.drew:=by
      cases bo <;> simp[Builtin.firstCells,loadCells,loadCellsFrom]
     have H:=run_append_grow_src (P:=P) w t t B e i (I .u8 0) C L hz bo 0 0 [] x (Z (M G) l2.length c) l2.length (bD l2) (by rw[o];exact Src.ofSlice _ C G _ c _ (by rw[dN];omega) d (wP l2)) (by omega) (by omega) (by rw[p];exact growslice_fits (by omega) (by omega));have W:=grownCap_ge w (0+l2.length) 0 e;have y:=grownCap_le_maxLen w (0+l2.length) 0 e (by unfold maxLen;omega);generalize grownCap w (0+l2.length) 0 e=b at H W y;refine⟨_,b,_,H,A ⟨by simpa using q,?_,fun a e=>?_⟩,⟨rfl,rfl,rfl,by simp,fun k hk _=>Below.heap_alloc w.drew _ k hk⟩⟩
     . rw[jo];have hzc:(Value.int IntKind.u8 0).cells.size=1:=rfl;have z:l2.length<=b:=by omega
       refine⟨by rw[dN];omega,.inr ⟨w.heap.size,b,_,by simp,ax _,bw w.drew _,z,y,?_,?_⟩⟩
       . simp only[Array.size_append,cN,dN,size_zeroCells,hzc];omega
       . simp only[Array.toList_append,jo,Nat.mul_one];rw[<-dN l2];exact List.take_left
     . injection e with e;subst e;exact R (ak _)
end
section
variable {P:Program} {w:X}
theorem IL {o:Oper}{a:Act}{d:Act->X->Prop}{aaf:Exit->Act->X->Prop}(s x:Operand)(t:TypeId)
 (u:o.op=.call { callee:=.builtin .append,args:=#[s,x],argTypes:=#[t,t] })
 (e:TypeId) (i:TypeInfo) (v:P.underlying t=M (.slice e)) (y:P.info? e=M i) (z:i.zero=M (I .u8 0)) (m:i.size=1) (p:i.bytes=1)
 {S:Nat->Prop} {bo r:ai} {gF c n g:Nat} {l l2:ae} (B:a.eval s=Z bo n gF) (C:a.eval x=Z r g c) (D:bM w S e bo gF l) (G:l.length=n) (H:ay w r c l2) (q:l2.length=g) (f:n+g<=140737488355328)
 (h:∀j b w',bM w' (fun k=>ct l bo=M k∨w.heap.size<=k) e j b (l++l2)->al (fun k=>ct l bo=M k) w w'->d (a.put o.dst (Z j (n+g) b)) w'):o.wp P a w d aaf:=by
 obtain⟨j,b,w',L,N,T⟩:=IZ (P:=P) w t o.type e i v y z m p D G H q f;unfold Oper.wp execOp;simp only[u,resolve,invoke,builtin,Sem.run_bind,Sem.run_pure,Result.andThen_ok,List.map_toArray,List.map_cons,List.map_nil,B,C,L];exact h j b w' N T
theorem yH {d:Array Oper}{rest:List Oper}{o:Oper}{a:Act}{aaf:Exit->Act->X->Prop}(m:o.guard=U)(s x:Operand)(t:TypeId)
 (v:o.op=.call { callee:=.builtin .append,args:=#[s,x],argTypes:=#[t,t] })
 (e:TypeId) (i:TypeInfo) (y:P.underlying t=M (.slice e)) (z:P.info? e=M i) (B:i.zero=M (I .u8 0)) (p:i.size=1) (q:i.bytes=1)
 {S:Nat->Prop} {bo u:ai} {gF c n g:Nat} {l l2:ae} (C:a.eval s=Z bo n gF) (D:a.eval x=Z u g c) (G:bM w S e bo gF l) (H:l.length=n) (L:ay w u c l2) (r:l2.length=g) (f:n+g<=140737488355328)
 (h:∀j b w',bM w' (fun k=>ct l bo=M k∨w.heap.size<=k) e j b (l++l2)->al (fun k=>ct l bo=M k) w w'->wpList P d aaf rest (a.put o.dst (Z j (n+g) b)) w'):wpList P d aaf (o::rest) a w :=
 wpList_plain m fun _ N=>IL s x t v e i y z B p q C D G H L r f fun j b w' T W=>N _ _ (h j b w' T W)
theorem Cn {d:Array Oper}{o:Oper}{a:Act}{f:Act->X->Prop}{aaf:Exit->Act->X->Prop}{E:Prop}(m:o.guard=U)(s x:Operand)(t:TypeId)
 (y:o.op=.call { callee:=.builtin .append,args:=#[s,x],argTypes:=#[t,t] })
 (e:TypeId) (i:TypeInfo) (z:P.underlying t=M (.slice e)) (B:P.info? e=M i) (C:i.zero=M (I .u8 0)) (p:i.size=1) (q:i.bytes=1)
 {S:Nat->Prop} {bo u:ai} {gF b n j:Nat} {l l2:ae} (D:a.eval s=Z bo n gF) (G:a.eval x=Z u j b) (H:bM w S e bo gF l) (L:l.length=n) (N:ay w u b l2) (r:l2.length=j) (g:n+j<=140737488355328)
 (h:∀v c w',bM w' (fun k=>ct l bo=M k∨w.heap.size<=k) e v c (l++l2)->al (fun k=>ct l bo=M k) w w'->f (a.put o.dst (Z v (n+j) c)) w') :
 if Region.wanted o (yielded d a.tmps)=true then Oper.wp P o a w f aaf else E:=by
 have T:Region.wanted o (yielded d a.tmps)=true:=by simp[Region.wanted,m]
 rw[if_pos T];exact IL s x t y e i z B C p q D G H L N r g h
end
section
variable {w w':X} {S S' T:Nat->Prop} {t:Nat} {ao:ai} {cap:Nat} {l:ae}
theorem bM.j (h:bM w S t ao cap l){k:Nat}(e:ct l ao=M k):S k∧k<w.heap.size:=by
 unfold ct at e;split at e
 . cases e
 . rename_i b;rcases h with ⟨_,c,d⟩ | ⟨f,_⟩
   . cases ao with
     | none=>cases e
     | some a=>injection e with e;subst e;exact⟨d a rfl,(c.d a rfl).2⟩
   . exact absurd f b
theorem bM.q (h:bM w S t ao cap l)(f:al T w w')(g:∀k,S k->ct l ao=M k->k<w.heap.size->¬T k∧S' k):bM w' S' t ao cap l:=by
 rcases h with ⟨b,c,i⟩ | h
 . have d:∀a,ao=M a->¬T a.block∧S' a.block:=fun a e=>g _ (i a e) (by unfold ct;rw[if_neg b,e];rfl) (c.d a e).2;exact A ⟨b,c.f f (fun a e=>(d a e).1),fun a e=>(d a e).2⟩
 . exact R h
theorem bM.y (h:bM w S t ao cap l)(d:∀k,S k->ct l ao=M k->k<w.heap.size->S' k):bM w S' t ao cap l:=h.q (al.r (fun _=>False) w) (fun k a b c=>⟨fun e=>e,d k a b c⟩)
end
def mZ (x:aL×eJ):Option Nat:=ct x.1.a x.2.a
def ng (us:List (aL×eJ)):Prop:=∀(i j:Nat) (x y:aL×eJ),us[i]? = M x->us[j]? = M y->i≠j->∀k,mZ x=M k->mZ y≠M k
theorem ng.e:ng []:=fun i j x y h=>by simp at h
theorem ng.f {a:List (aL×eJ)}{x:aL×eJ}(h:ng a)(b:∀y∈a,∀k,mZ y=M k->mZ x≠M k):ng (a++[x]):=by grind [ng,mZ]
theorem ng.a {a:List (aL×eJ)}{x:aL×eJ}(h:ng a)(i:Nat)(b:∀j y,a[j]? = M y->j≠i->∀k,mZ y=M k->mZ x≠M k):ng (a.set i x):=by grind [ng,mZ]
theorem ng.d {a:List (aL×eJ)}(h:ng a)(i:Nat):ng (a.eraseIdx i):=by grind [ng]
def dY (w:X)(S:Nat->Prop)(tU tB:Nat)(ao:ai)(cap:Nat)(l:List aL):Prop :=
 ∃us:List (aL×eJ),us.map (·.1)=l∧aG w 0 tU 5 ao cap l.length (de us)∧(∀a,ao=M a->S a.block)∧(∀x∈us,bM w (fun k=>S k∧au ao≠M k) tB x.2.a x.2.b x.1.a)∧ng us
section
variable {w w' w1:X} {S S' N:Nat->Prop} {tU tB:Nat} {ao:ai} {cap:Nat} {l:List aL}
theorem dY.E (w:X)(S:Nat->Prop)(tU tB:Nat):dY w S tU tB U 0 []:=⟨[],rfl,aG.f _ _ _ _,fun a e=>(by cases e),fun p b=>(by cases b),ng.e⟩
theorem dY.d (h:dY w S tU tB ao cap l):A7 w S tU ao cap l:=by
 obtain⟨a,b,c,d,e,_⟩:=h;exact⟨a,b,c,d,fun x f=>(e x f).r⟩
theorem dY.f (h:dY w S tU tB ao cap l):qP w ao cap l:=h.d.d
theorem dY.e (h:dY w S tU tB ao cap l):l.length<=cap:=by
 obtain⟨b,c,a,d,e,_⟩:=h;exact a.a.1
theorem dY.j (h:dY w S tU tB ao cap l)(b:al S' w w')(c:∀k,S k->¬S' k):dY w' S tU tB ao cap l:=by
 obtain⟨f,g,i,d,j,m⟩:=h;exact⟨f,g,i.e b (fun a e=>c _ (d a e)),d,fun x n=>(j x n).a b (fun k e=>c k e.1),m⟩
theorem dY.a (h:dY w S tU tB ao cap l)(b:∀k,k<w.heap.size->S k->S' k):dY w S' tU tB ao cap l:=by
 obtain⟨d,f,c,g,i,j⟩:=h;exact⟨d,f,c,fun a e=>b _ (c.d a e).2 (g a e),fun x m=>(i x m).e (fun k n e=>⟨b k n e.1,e.2⟩),j⟩
theorem dY.q (h:dY w S tU tB ao cap l)(a:Below w.heap.size w w'):dY w' S tU tB ao cap l:=h.j (al.d (S:=fun _=>False) a) (fun _ _ e=>e)
theorem CS {S:Nat->Prop}(b:∀a,ao=M a->S a.block):∀k,au ao=M k->S k:=fun k e=>by
 cases ao with
 | none=>cases e
 | some a=>injection e with e;subst e;exact b a rfl
theorem dY.G {W:X}(h:dY W S tU tB ao cap l)(m:Obj):∃xs,aG (W.alloc m) 0 tU 5 ao cap l.length xs ∧
 ∀gQ b w' (u:aL) (s:eJ) (N:Nat->Prop),bM W N tB s.a s.b u.a->(∀k,S k->¬N k)->aG w' 0 tU 5 gQ b (l.length+1) (xs++du u s)->(W.alloc m).grownBy w' (au ao)->(au gQ=au ao∨au gQ=M (W.alloc m).heap.size)->dY w' (fun k=>S k∨N k∨W.heap.size<=k) tU tB gQ b (l++[u])∧al S W w':=by
 obtain⟨p,z,B,C,q,D⟩:=h;have r:Below W.heap.size W (W.alloc m):=(aq _ _).alloc (ak _) _;have n:=CS C;refine⟨de p,B.r r,fun gQ b w' u s N t v G H d=>?_⟩;have o:=(al.d r).a (al.q H (fun k e=>e)) (fun _ e _=>e);have f:∀k,k<W.heap.size->au ao≠M k->au gQ≠M k:=fun k c h e=>by
  rcases d with g | g
  . rw[g] at e;exact h e
  . rw[g,ch] at e;injection e with e;omega
 refine⟨⟨p++[(u,s)],by simp[z],by rw[zd,T8,aF];exact G,fun a e=>?_,fun x i=>?_,D.f fun y L k T kx=>v k ((q y L).j T).1.1 (t.j kx).1⟩,o.e (fun k e=>n k e)⟩
 . subst e;rcases d with g | g
   . exact A (n _ (g.symm.trans rfl))
   . rw[ch] at g;injection g with g;exact R (R (by omega))
 . rcases dm.1 i with i | i
   . exact(q x i).q o (fun k e _ c=>⟨e.2,A e.1,f k c e.2⟩)
   . rw[cD.1 i];have j:∀k,N k->au ao≠M k:=fun k c e=>v k (n k e) c;exact t.q o (fun k e _ c=>⟨j k e,R (A e),f k c (j k e)⟩)
theorem dY.jD {g i j:Nat}{v:Value}{u:aL}(h:dY w S tU tB (M ⟨g,0,U⟩) cap l)(B:i<l.length)(m:j<5)(C:∀s,(du l[i] s).set j v=du u s)(D:u.a=l[i].a):dY (w.setCell ⟨g,i*5+j,U⟩ v) S tU tB (M ⟨g,0,U⟩) cap (l.set i u)∧al (fun k=>k=g) w (w.setCell ⟨g,i*5+j,U⟩ v):=by
 obtain⟨a,rfl,G,H,o,p⟩:=h;have b:i<a.length:=by simpa using B
 have q:al (fun k=>k=g) w (w.setCell ⟨g,i*5+j,U⟩ v):=al.f (fun k=>k=g) w _ _ rfl;have c:u.a=a[i].1.a:=by rw[D,dH]
 have d:mZ (u,a[i].2)=mZ a[i]:=by unfold mZ;simp only;rw[c]
 refine⟨⟨a.set i (u,a[i].2),by rw[List.map_set],?_,H,fun x f=>?_,p.a i fun j y n m k L r=>?_⟩,q⟩
 . have t:=(oE G (i*5+j) v).1;rw[Al a i b j v (u,a[i].2) m (by have:=C a[i].2;rw[dH] at this;exact this)] at t;rw[qk];exact t
 . have z:∀y:aL×eJ,bM w (fun k=>S k∧au (M ⟨g,0,U⟩)≠M k) tB y.2.a y.2.b y.1.a->bM (w.setCell ⟨g,i*5+j,U⟩ v) (fun k=>S k∧au (M ⟨g,0,U⟩)≠M k) tB y.2.a y.2.b y.1.a:=fun y n=>n.a q (fun k e T=>e.2 (by subst T;rfl));rcases List.mem_or_eq_of_mem_set f with f | f
   . exact z x (o x f)
   . subst f;have:=z a[i] (o a[i] (dG b));show bM _ _ _ a[i].2.a a[i].2.b u.a;rw[c];exact this
 . rw[d] at r;exact p j i y a[i] n (gU b) m k L r
theorem dY.r (h:dY w S tU tB ao cap l)(i:Nat)(v:i<l.length):∃(g:Nat) (s:eJ),ao=M ⟨g,0,U⟩∧S g∧g<w.heap.size∧w.cell? ⟨g,i*5,U⟩=M (I J l[i].b)∧w.cell? ⟨g,i*5+1,U⟩=M (I J l[i].c)∧w.cell? ⟨g,i*5+2,U⟩=M (V l[i].d)∧w.cell? ⟨g,i*5+3,U⟩=M (Z s.a l[i].a.length s.b)∧w.cell? ⟨g,i*5+4,U⟩=M (I J l[i].e)∧(∀j,w.frozen? ⟨g,j,U⟩=false)∧bM w (fun k=>S k∧k≠g) tB s.a s.b l[i].a ∧
 ∀w1 o p bs n,bM w1 (fun k=>ct l[i].a s.a=M k∨w.heap.size<=k) tB o p bs->al (fun k=>ct l[i].a s.a=M k) w w1->n=bs.length->dY (w1.setCell ⟨g,i*5+3,U⟩ (Z o n p)) (aB S w) tU tB (M ⟨g,0,U⟩) cap (l.set i { l[i] with a:=bs })∧al S w (w1.setCell ⟨g,i*5+3,U⟩ (Z o n p)):=by
 have hU:=h.f.d i v;obtain⟨g,hg,q,_,_⟩:=h.d.a i v;subst hg;obtain⟨c,rfl,r,h3,z,B⟩:=h;have d:i<c.length:=by simpa using v
 have t:∀j,j<5->w.cell? ⟨g,i*5+j,U⟩=(du c[i].1 c[i].2)[j]?:=fun j f=>by
  rw[rG r (i*5+j) (by omega),py c i d j f]
 have hx:=z _ (dG d);have u:bM w (fun k=>S k∧k≠g) tB c[i].2.a c[i].2.b c[i].1.a:=hx.y (fun k e _ _=>⟨e.1,fun m=>e.2 (by subst m;rfl)⟩);simp only[dH];refine⟨g,c[i].2,rfl,q,(r.d _ rfl).2,t 0 (by decide),t 1 (by decide),t 2 (by decide),t 3 (by decide),t 4 (by decide),fun j=>tM r j,u,fun w1 o p bs n H C hn=>?_⟩;subst hn;have b:∀k,ct c[i].1.a c[i].2.a=M k->S k∧k≠g:=fun k e=>(u.j e).1;have hgl:g<w.heap.size:=(r.d _ rfl).2;have kD:al S w (w1.setCell ⟨g,i*5+3,U⟩ (Z o bs.length p)):=(C.e (fun k e=>(b k e).1)).a (al.f S w1 _ _ q) (fun _ e _=>e);have L:al (fun k=>k=g) w1 (w1.setCell ⟨g,i*5+3,U⟩ (Z o bs.length p)):=al.f (fun k=>k=g) w1 _ _ rfl;have MO:aG w1 0 tU 5 (M ⟨g,0,U⟩) cap (c.map (·.1)).length (de c):=r.e C (fun a e h=>by injection e with e;subst e;exact(b _ h).2 rfl);refine⟨⟨c.set i ({ c[i].1 with a:=bs },⟨o,p⟩),by rw[List.map_set],?_,fun a e=>A (h3 a e),fun x D=>?_,B.a i fun j y T f k W kx=>?_⟩,kD⟩
 . have MN:=(oE MO (i*5+3) (Z o bs.length p)).1;rw[Al c i d 3 _ ({ c[i].1 with a:=bs },⟨o,p⟩) (by decide) rfl] at MN;rw[qk];exact MN
 . obtain⟨j,f⟩:=List.getElem?_of_mem D;rw[List.getElem?_set] at f;split at f
   . rename_i e;first | rw[if_pos d] at f | skip
     injection f with f;subst f;refine(H.y (S':=fun k=>aB S w k∧k≠g) (fun k h _ _=>?_)).q L (fun k e _ _=>⟨e.2,e.1,fun m=>e.2 (by injection m with m;exact m.symm)⟩);rcases h with h | h
     . exact⟨A (b k h).1,(b k h).2⟩
     . exact⟨R h,by omega⟩
   . rename_i e;have hm:=mm f;have G:bM w1 (fun k=>S k∧k≠g) tB x.2.a x.2.b x.1.a:=(z x hm).q C (fun k e1 m _=>⟨fun e3=>B j i x c[i] f (gU d) (fun e4=>e e4.symm) k m e3,e1.1,fun e5=>e1.2 (by subst e5;rfl)⟩);exact G.q L (fun k e _ _=>⟨e.2,A e.1,fun m=>e.2 (by injection m with m;exact m.symm)⟩)
 . rcases(H.j kx).1 with e | e
   . exact B j i y c[i] T (gU d) f k W e
   . have:=((z y (mm T)).j W).2;omega
theorem Rw (a:List (aL×eJ))(i:Nat):de (a.eraseIdx i)=de (a.take i)++de (a.drop (i+1)):=by rw[List.eraseIdx_eq_take_drop_succ,zd]
theorem dY.B (h:dY w S tU tB ao cap l)(i:Nat)(m:i<l.length):∃c:List (aL×eJ),c.length=l.length∧aG w 0 tU 5 ao cap l.length (de c) ∧
 ∀w' gQ b,aG w' 0 tU 5 gQ b (l.length-1) (de (c.eraseIdx i))->al (fun k=>au ao=M k) w w'->(∀k,au gQ=M k->au ao=M k∨w.heap.size<=k)->dY w' (aB S w) tU tB gQ b (l.eraseIdx i)∧al S w w':=by
 obtain⟨c,rfl,n,o,p,q⟩:=h;have f:=CS o;refine⟨c,by simp,n,fun w' gQ b r j d=>⟨⟨c.eraseIdx i,by simp[List.eraseIdx_eq_take_drop_succ,List.map_take,List.map_drop],?_,fun a e=>?_,fun x s=>?_,q.d i⟩,j.e f⟩⟩
 . rw[List.length_eraseIdx_of_lt m];exact r
 . subst e;rcases d _ rfl with g | g
   . exact A (f _ g)
   . exact R g
 . refine(p x (List.mem_of_mem_eraseIdx s)).q j (fun k e _ u=>⟨e.2,A e.1,fun t=>?_⟩);rcases d k t with g | g
   . exact e.2 g
   . omega
end
def pA:List Value->Nat->List Value->List Value
 | xs,_,[]=>xs
 | xs,o,v::vs=>pA (xs.set o v) (o+1) vs
theorem Ft:∀(a xs:List Value) (o j:Nat),(pA xs o a)[j]? = if o<=j∧j<o+a.length∧j<xs.length then a[j-o]? else xs[j]?:=by intro l;induction l <;> grind [pA]
theorem Mu:∀(a xs:List Value) (o:Nat),(pA xs o a).length=xs.length:=by intro l;induction l <;> grind [pA]
section
variable {w w':X} {S S':Nat->Prop} {t k g cap n:Nat} {xs:List Value}
theorem aG.y:∀(a:List Value) (o:Nat) {xs:List Value} {w:X},aG w 0 t k (M ⟨g,0,U⟩) cap n xs->aG (w.setCells g o a) 0 t k (M ⟨g,0,U⟩) cap n (pA xs o a)
 | [],_,_,_,h=>h
 | v::a,o,xs,w,h=>by rw[World.setCells,pA];exact aG.y a (o+1) (oE h o v).1
theorem tS (g:Nat):∀(a:List Value) (o:Nat) (w:X),al (fun k=>k=g) w (w.setCells g o a)
 | [],_,w=>al.r _ w
 | v::a,o,w=>by rw[World.setCells];exact(al.f (fun k=>k=g) w _ _ rfl).a (tS g a (o+1) _) (fun _ e _=>e)
theorem aG.G (h:aG w 0 t k (M ⟨g,0,U⟩) cap n xs)(m:Nat)(f:m<=n):aG w 0 t k (M ⟨g,0,U⟩) cap m (xs.take (m*k)):=by
 have r:=h.1;have b:=Nat.mul_le_mul_right k f;refine⟨by rw[bP];omega,?_⟩;rcases h.2 with ⟨e,_⟩ | ⟨s,d,c,e,i,j,u,l,o,p⟩
 . simp at e
 . injection e with a v q;injection a with a;injection a with a;subst a;subst q;exact R ⟨g,cap,c,rfl,i,j,by omega,l,o,by rw[<-p,List.take_take,oC b]⟩
theorem aG.E (h:aG w 0 t k (M ⟨g,0,U⟩) cap n xs)(i:Nat)(m:i<n)(b:List Value):aG ((w.setCells g (i*k) (xs.drop ((i+1)*k))).setCells g ((n-1)*k) b) 0 t k (M ⟨g,0,U⟩) cap (n-1) (xs.take (i*k)++xs.drop ((i+1)*k)):=by
 have o:=h.1;have d:=((h.y (xs.drop ((i+1)*k)) (i*k)).y b ((n-1)*k)).G (n-1) (by omega);have e:(i+1)*k=i*k+k:=Nat.succ_mul i k;have f:n*k=(n-1)*k+k:=by rw[<-Nat.succ_mul,show(n-1).succ=n by omega]
 have l:i*k<=(n-1)*k:=Nat.mul_le_mul_right k (by omega);refine(mg (aG _ 0 t k (M ⟨g,0,U⟩) cap (n-1)) ?_).mp d;refine List.ext_getElem? fun j=>?_;rw[List.getElem?_take,List.getElem?_append,bP,List.getElem?_take,List.getElem?_drop];by_cases c:j<(n-1)*k
 . rw[if_pos c,Ft,if_neg (by omega),Ft,bV];by_cases a:j<i*k
   . rw[if_neg (by omega),if_pos (by omega),if_pos a]
   . rw[if_pos (by omega),if_neg (by omega),List.getElem?_drop,oC (by omega)]
 . rw[if_neg c,if_neg (by omega),yF (by omega)]
end
theorem KM {P:Program}(w:X)(t e k:TypeId)(z:Value)(l:P.underlying t=M (.slice e))(m:∀w,(zeroValue e).run P w=.ok z w)(f:∀v∈z.cells.toList,v.oneCell'=true)(b o c:Nat)
 (n:∀j,j<z.cells.size->(w.cell? ⟨b,o+j,U⟩).isSome=true) (p:∀j,j<z.cells.size->w.frozen? ⟨b,o+j,U⟩=false) :
 (Builtin.clear_ #[t] k #[Z (M ⟨b,o,U⟩) 1 c]).run P w=.ok (.tuple #[]) (w.setCells b o z.cells.toList):=by
 have d:Builtin.zeroCells z.cells 1=z.cells:=by
  apply Array.ext
  . simp[Builtin.zeroCells]
  . intro i f g;simp[Builtin.zeroCells,Nat.mod_eq_of_lt g];exact getElem!_pos z.cells i g
 have a:=run_storeCells_cells (P:=P) b o z.cells.toList 0 w (by simpa using n) (by simpa using p) f;simp only[lC] at a;simp[Builtin.clear_,run_underlying l,m,d,a]
def gY (w:X)(S:Nat->Prop)(tO tU tB g:Nat)(s:aA):Prop:=∃ao cap,w.heap[g]? = M (K #[Z ao s.l.length cap,I J s.a] tO (0,0))∧S g∧dY w (fun k=>S k∧k≠g) tU tB ao cap s.l
section
variable {w w' w1:X} {S S' N:Nat->Prop} {tO tU tB g:Nat} {s:aA}
theorem gY.j (h:gY w S tO tU tB g s)(b:al S' w w')(c:∀k,S k->¬S' k):gY w' S tO tU tB g s:=by
 obtain⟨f,a,i,d,j⟩:=h;exact⟨f,a,b.j i (c g d),d,j.j b (fun k e=>c k e.1)⟩
theorem gY.f (h:gY w S tO tU tB g s):g<w.heap.size:=by grind [gY]
theorem gY.d (h:gY w S tO tU tB g s)(b:∀k,k<w.heap.size->S k->S' k):gY w S' tO tU tB g s:=by
 have c:=h.f;obtain⟨d,a,f,i,j⟩:=h;exact⟨d,a,f,b g c i,j.a (fun k l e=>⟨b k l e.1,e.2⟩)⟩
theorem gY.a (h:gY w S tO tU tB g s)(a:Below w.heap.size w w'):gY w' S tO tU tB g s:=h.j (al.d (S:=fun _=>False) a) (fun _ _ e=>e)
theorem gY.q {v:Value}{last:Int}{a:List aL}{ao:ai}{cap n:Nat}(c:w1.heap[g]? = M (K #[v,I J last] tO (0,0)))(d:S g)(f:dY w1 (fun k=>S k∧k≠g) tU tB ao cap a)(i:n=a.length):gY (w1.setCell ⟨g,0,U⟩ (Z ao n cap)) S tO tU tB g ⟨a,last⟩∧al (fun k=>k=g) w1 (w1.setCell ⟨g,0,U⟩ (Z ao n cap)):=by
 subst i;have b:al (fun k=>k=g) w1 (w1.setCell ⟨g,0,U⟩ (Z ao a.length cap)):=al.f (fun k=>k=g) w1 _ _ rfl;exact⟨⟨ao,cap,aQ w1 g 0 _ tO _ c,d,f.j b (fun k e j=>e.2 j)⟩,b⟩
theorem gY.e (h:gY w S tO tU tB g s):∃ao cap,w.cell? ⟨g,0,U⟩=M (Z ao s.l.length cap)∧w.cell? ⟨g,1,U⟩=M (I J s.a)∧w.frozen? ⟨g,0,U⟩=false∧w.frozen? ⟨g,1,U⟩=false∧w.heap[g]? = M (K #[Z ao s.l.length cap,I J s.a] tO (0,0))∧S g∧dY w (fun k=>S k∧k≠g) tU tB ao cap s.l:=by
 obtain⟨ao,cap,a,b,c⟩:=h;exact⟨ao,cap,am w g 0 _ _ _ a,am w g 1 _ _ _ a,aD w g 0 _ _ a,aD w g 1 _ _ a,a,b,c⟩
end
theorem xS (x y:ag):∀u∈([V x,V y]:List Value),u.oneCell'=true:=fun u a=>by simp at a;rcases a with rfl | rfl <;> rfl
theorem yM (W:X)(x y:ag)(t:Nat){k:Nat}(a:W.heap.size=k):∀j u,([V x,V y]:List Value)[j]? = M u->(W.alloc (K #[V x,V y] t)).cell? (Addr.add ⟨k,0,U⟩ j)=M u:=fun j u b=>by
 rw[ga,dV,World.cell?_alloc_at _ _ _ _ a.symm,mS];exact b
theorem UF {a w5:X}{x y:ag}{t:Nat}(h:Below (a.alloc (K #[V x,V y] t)).drew.heap.size (a.alloc (K #[V x,V y] t)).drew w5):∀j u,([V x,V y]:List Value)[j]? = M u->w5.cell? (Addr.add ⟨a.heap.size,0,U⟩ j)=M u:=fun j u c=>by
 have d:=yM a x y t rfl j u c;have b:=d;exact(h.cell (bI _ _ b)).trans b
theorem Hy {c W d:X}{b t:Nat}{ao:ai}{cap n:Nat}{xs:List Value}{w5:X}(f:Below c.heap.size c W)(g:aG w5 b t 2 ao cap n xs)(i:W.grownBy d (Value.slice ao n cap).ownBlock)(j:c.heap.size<=b):Below c.heap.size c d :=
 f.grown i f.size (fun q e=>by
  rw[dI] at e;cases ao with
  | none=>cases e
  | some a=>injection e with e;subst e;have:=(g.d a rfl).1;omega)
def ll:aL:=⟨0,0,⟨#[]⟩,[],0⟩
theorem Rb (n:Nat):(madeCells #[I J 0,I J 0,V ⟨#[]⟩,Z U 0 0,I J 0] (n*5)).toList=de (List.replicate n (ll,⟨U,0⟩)):=by
 refine List.ext_getElem? fun j=>?_;by_cases c:j<n*5
 . have d:j=(j / 5)*5+j % 5:=by omega
   have e:j / 5<n:=by omega
   have a:j % 5<5:=Nat.mod_lt _ (by decide);have b:=py (List.replicate n (ll,⟨U,0⟩)) (j / 5) (by simpa using e) (j % 5) a;rw[<-d] at b;rw[b,Array.getElem?_toList];have f:(#[Value.int J 0,I J 0,V ⟨#[]⟩,Z U 0 0,I J 0]:Array Value).size=5:=rfl;simp only[madeCells,Array.getElem?_map,List.getElem_replicate];rw[Array.getElem?_range,if_pos c,f,Option.map_some];generalize j % 5=r at a ⊢;match r,a with
   | 0,_=>rfl
   | 1,_=>rfl
   | 2,_=>rfl
   | 3,_=>rfl
   | 4,_=>rfl
 . rw[yF (by simp[madeCells];omega),yF (by rw[wO,List.length_replicate];omega)]
theorem FF:∀(b:List (aL×eJ)) (i:Nat) (_:i<b.length) (x:aL×eJ),(((((de b).set (i*5) (I J x.1.b)).set (i*5+1) (I J x.1.c)).set (i*5+2) (V x.1.d)).set (i*5+3) (Z x.2.a x.1.a.length x.2.b)).set (i*5+4) (I J x.1.e)=de (b.set i x)
 | p::t,0,_,x=>rfl
 | p :: t, i + 1, hi, x => by
   have c:=FF t i (by simpa using hi) x;have e:∀(a:List Value) (k:Nat) (v:Value),(du p.1 p.2++a).set ((i+1)*5+k) v=du p.1 p.2++a.set (i*5+k) v:=fun a k v=>by
    rw[tC _ _ (by rw[show(du p.1 p.2).length=5 from rfl];omega),show(du p.1 p.2).length=5 from rfl,show(i+1)*5+k-5=i*5+k by omega]
   have d:∀(a:List Value) (v:Value),(du p.1 p.2++a).set ((i+1)*5) v=du p.1 p.2++a.set (i*5) v:=fun a v=>e a 0 v;show(((((du p.1 p.2++de t).set ((i+1)*5) _).set _ _).set _ _).set _ _).set _ _=du p.1 p.2++de (t.set i x);rw[d,e,e,e,e,c]
section
variable {w w':X} {S N:Nat->Prop} {tU tB g cap n:Nat} {l:List aL}
theorem dY.jK (h:aG w 0 tU 5 (M ⟨g,0,U⟩) cap n (de (List.replicate n (ll,⟨U,0⟩))))(d:S g):dY w S tU tB (M ⟨g,0,U⟩) cap (List.replicate n ll):=by
 refine⟨List.replicate n (ll,⟨U,0⟩),by simp,by rw[List.length_replicate];exact h,fun a e=>by injection e with e;subst e;exact d,fun x b=>?_,fun i j x y b f _ k c=>?_⟩
 . rw[List.eq_of_mem_replicate b];exact bM.d _ _ _
 . rw[List.eq_of_mem_replicate (mm b)] at c;simp[mZ,ct,ll] at c
theorem dY.y {i:Nat}{u:aL}{bo:ai}{gF f:Nat}(h:dY w S tU tB (M ⟨g,0,U⟩) cap l)(C:i<l.length)(s:bM w N tB bo gF u.a)(m:∀k,N k->¬S k)(o:f=u.a.length):
 dY (((((w.setCell ⟨g,i*5,U⟩ (I J u.b)).setCell ⟨g,i*5+1,U⟩ (I J u.c)).setCell ⟨g,i*5+2,U⟩ (V u.d)).setCell ⟨g,i*5+3,U⟩ (Z bo f gF)).setCell ⟨g,i*5+4,U⟩ (I J u.e)) (fun k=>S k∨N k) tU tB (M ⟨g,0,U⟩) cap (l.set i u) ∧
 al (fun k=>k=g) w (((((w.setCell ⟨g,i*5,U⟩ (I J u.b)).setCell ⟨g,i*5+1,U⟩ (I J u.c)).setCell ⟨g,i*5+2,U⟩ (V u.d)).setCell ⟨g,i*5+3,U⟩ (Z bo f gF)).setCell ⟨g,i*5+4,U⟩ (I J u.e)):=by
 subst o;obtain⟨p,rfl,D,t,v,G⟩:=h;have q:i<p.length:=by simpa using C
 have r:=tS g [I J u.b,I J u.c,V u.d,Z bo u.a.length gF,I J u.e] (i*5) w;have z:=(oE (oE (oE (oE (oE D (i*5) (I J u.b)).1 (i*5+1) (I J u.c)).1 (i*5+2) (V u.d)).1 (i*5+3) (Z bo u.a.length gF)).1 (i*5+4) (I J u.e)).1;have B:=FF p i q (u,⟨bo,gF⟩);simp only at B;rw[B] at z;refine⟨⟨p.set i (u,⟨bo,gF⟩),by rw[List.map_set],by rw[qk];exact z,fun a e=>A (t a e),fun x c=>?_,G.a i fun j y H _ k L T=>?_⟩,r⟩
 . have d:=t _ rfl;rcases List.mem_or_eq_of_mem_set c with c | c
   . exact(v x c).q r (fun k e _ _=>⟨fun b=>e.2 (by subst b;rfl),A e.1,e.2⟩)
   . subst c;exact s.q r (fun k e _ _=>⟨fun b=>m k e (by subst b;exact d),R e,fun b=>m k e (by injection b with b;subst b;exact d)⟩)
 . exact m k (s.j T).1 ((v y (mm H)).j L).1.1
end
theorem R9 (l:List aL)(k:Nat)(b:k<l.length):(l.take k++List.replicate (l.length-k) ll).set k l[k]=l.take (k+1)++List.replicate (l.length-(k+1)) ll:=by
 have e:l.length-k=(l.length-(k+1))+1:=by omega
 have a:(l.take k).length=k:=by rw[bP];omega
 rw[e,List.replicate_succ,tC _ _ (by omega),a,Nat.sub_self,qt,go b,iX];rfl
