import Derived.Test.YtodmelffkfbalaaGreatDoorPk11
import Derived.Deep.AppendLies
import Derived.Test.YtodmelffkfbalaaGreatDoorPk10
open Go.Value renaming int->I,string->V,slice->Z
open Go.IntKind renaming i64->J
open Go.Obj renaming cells->K
open Option renaming none->U,some->M
open Or renaming inl->A,inr->R
open Go renaming World->X
namespace Go.Proofs.YtodmelffkfbalaaGreatDoor
open Go.RowKit
def cw (l:ab)(bo:ag):Option Nat:=if l=[] then U else aw bo
section
variable {P:Program} (w:X)
theorem TV (t c e:TypeId)(i:TypeInfo)(d:P.underlying t=M (.slice e))(f:P.info? e=M i)(bo b:ag)(n cap a:Nat)(g:n<=cap):
 (Builtin.append_ #[t,t] c #[Z bo n cap,Z b 0 a]).run P w=.ok (Z bo n cap) w:=by
 cases bo <;> cases b <;> simp[Builtin.append_,run_underlying d,sizeOf,typeInfo,f,Builtin.lenOf,Builtin.firstCells,loadCells,loadCellsFrom,storeCells,g]
theorem Il (t B e:TypeId)(i:TypeInfo)(C:P.underlying t=M (.slice e))(L:P.info? e=M i)(hz:i.zero=M (I .u8 0))(o:i.size=1)(p:i.bytes=1)
 {S:Nat->Prop} {bo N:ag} {fZ c n D:Nat} {l l2:ab} (h:bK w S e bo fZ l) (hn:l.length=n) (hs:aB w N c l2) (T:l2.length=D) (hlen:n+D<=140737488355328) :
 ∃oG b w', (Builtin.append_ #[t, t] B #[Z bo n fZ, Z N D c]).run P w = .ok (Z oG (n + D) b) w' ∧
   bK w' (fun k=>cw l bo=M k∨w.heap.size<=k) e oG b (l++l2)∧am (fun k=>cw l bo=M k) w w':=by
 subst hn;subst T;by_cases q:l2=[]
 . subst q;refine⟨bo,fZ,w,?_,?_,am.B _ _⟩
   . have hc:l.length<=fZ:=h.B.1;exact TV w t B e i C L bo N l.length fZ c hc
   . rw[fK];rcases h with ⟨r,q,_⟩ | h
     . exact A ⟨r,q,fun a e=>A (by unfold cw;rw[if_neg r,e];rfl)⟩
     . exact R h
 . have m:0<l2.length:=kY.2 q;obtain⟨G,rfl⟩:=hs.oF m;have d:∀j u,(bA l2)[j]? = M u->w.cell? (G.add j)=M u:=fun j u s=>by
    have hj:j<l2.length:=by
     have:=(fe.1 s).1;rwa[dr] at this
    rw[jM l2 j hj] at s;injection s with s;subst s;exact hs.j j hj
   rcases h with ⟨r,v,hm⟩ | ⟨rfl,rfl⟩
   . obtain⟨g,b,w',H,hO,hG,f,_⟩:=run_append_lies (P:=P) w t B 0 e i (I .u8 0) 1 1 C L hz o p rfl (by decide) (Z bo l.length fZ) l.length (bA l) v G l2.length c (bA l2) (by rw[dr];omega) d (th l2) m (by unfold maxLen;omega) (by omega) (ax _) w.heap.size rfl;rw[dq] at hG f;have eB:cw l bo=aw bo:=by unfold cw;rw[if_neg r]
     refine⟨_,b,w',H,A ⟨by simp[r],?_,fun a e=>?_⟩,am.G hG (fun k e=>by rw[eB];exact e)⟩
     . unfold bl;rw[oQ,aD];exact hO
     . injection e with e;subst e;rcases f with f | f
       . exact A (by rw[eB];exact f)
       . exact R (by show w.heap.size<=g;omega)
   . have x:(Builtin.firstCells i.size 0 (Z bo 0 0)).run P w.drew=.ok ([]:List Value).toArray w.drew:=by
      cases bo <;> simp[Builtin.firstCells,loadCells,loadCellsFrom]
     have H:=run_append_grow_src (P:=P) w t t B e i (I .u8 0) C L hz bo 0 0 [] x (Z (M G) l2.length c) l2.length (bA l2) (by rw[o];exact Src.ofSlice _ C G _ c _ (by rw[dr];omega) d (th l2)) (by omega) (by omega) (by rw[p];exact growslice_fits (by omega) (by omega));have W:=grownCap_ge w (0+l2.length) 0 e;have y:=grownCap_le_maxLen w (0+l2.length) 0 e (by unfold maxLen;omega);generalize grownCap w (0+l2.length) 0 e=b at H W y;refine⟨_,b,_,H,A ⟨by simpa using q,?_,fun a e=>?_⟩,⟨rfl,rfl,rfl,by simp,fun k hk _=>Below.heap_alloc w.drew _ k hk⟩⟩
     . rw[kX];have hzc:(Value.int IntKind.u8 0).cells.size=1:=rfl;have z:l2.length<=b:=by omega
       refine⟨by rw[dr];omega,.inr ⟨w.heap.size,b,_,by simp,ax _,aX w.drew _,z,y,?_,?_⟩⟩
       . simp only[Array.size_append,cz,dr,size_zeroCells,hzc];omega
       . simp only[Array.toList_append,kX,Nat.mul_one];rw[<-dr l2];exact List.take_left
     . injection e with e;subst e;exact R (ak _)
end
section
variable {P:Program} {w:X}
theorem Hs {o:Oper}{a:Act}{d:Act->X->Prop}{aam:Exit->Act->X->Prop}(s x:Operand)(t:TypeId)
 (u:o.op=.call { callee:=.builtin .append,args:=#[s,x],argTypes:=#[t,t] })
 (e:TypeId) (i:TypeInfo) (v:P.underlying t=M (.slice e)) (y:P.info? e=M i) (z:i.zero=M (I .u8 0)) (m:i.size=1) (p:i.bytes=1)
 {S:Nat->Prop} {bo r:ag} {fZ c n g:Nat} {l l2:ab} (B:a.eval s=Z bo n fZ) (C:a.eval x=Z r g c) (D:bK w S e bo fZ l) (G:l.length=n) (H:aB w r c l2) (q:l2.length=g) (f:n+g<=140737488355328)
 (h:∀j b w',bK w' (fun k=>cw l bo=M k∨w.heap.size<=k) e j b (l++l2)->am (fun k=>cw l bo=M k) w w'->d (a.put o.dst (Z j (n+g) b)) w'):o.wp P a w d aam:=by
 obtain⟨j,b,w',L,N,T⟩:=Il (P:=P) w t o.type e i v y z m p D G H q f;unfold Oper.wp execOp;simp only[u,resolve,invoke,builtin,Sem.run_bind,Sem.run_pure,Result.andThen_ok,List.map_toArray,List.map_cons,List.map_nil,B,C,L];exact h j b w' N T
theorem xX {d:Array Oper}{rest:List Oper}{o:Oper}{a:Act}{aam:Exit->Act->X->Prop}(m:o.guard=U)(s x:Operand)(t:TypeId)
 (v:o.op=.call { callee:=.builtin .append,args:=#[s,x],argTypes:=#[t,t] })
 (e:TypeId) (i:TypeInfo) (y:P.underlying t=M (.slice e)) (z:P.info? e=M i) (B:i.zero=M (I .u8 0)) (p:i.size=1) (q:i.bytes=1)
 {S:Nat->Prop} {bo u:ag} {fZ c n g:Nat} {l l2:ab} (C:a.eval s=Z bo n fZ) (D:a.eval x=Z u g c) (G:bK w S e bo fZ l) (H:l.length=n) (L:aB w u c l2) (r:l2.length=g) (f:n+g<=140737488355328)
 (h:∀j b w',bK w' (fun k=>cw l bo=M k∨w.heap.size<=k) e j b (l++l2)->am (fun k=>cw l bo=M k) w w'->wpList P d aam rest (a.put o.dst (Z j (n+g) b)) w'):wpList P d aam (o::rest) a w :=
 wpList_plain m fun _ N=>Hs s x t v e i y z B p q C D G H L r f fun j b w' T W=>N _ _ (h j b w' T W)
theorem Bz {d:Array Oper}{o:Oper}{a:Act}{f:Act->X->Prop}{aam:Exit->Act->X->Prop}{E:Prop}(m:o.guard=U)(s x:Operand)(t:TypeId)
 (y:o.op=.call { callee:=.builtin .append,args:=#[s,x],argTypes:=#[t,t] })
 (e:TypeId) (i:TypeInfo) (z:P.underlying t=M (.slice e)) (B:P.info? e=M i) (C:i.zero=M (I .u8 0)) (p:i.size=1) (q:i.bytes=1)
 {S:Nat->Prop} {bo u:ag} {fZ b n j:Nat} {l l2:ab} (D:a.eval s=Z bo n fZ) (G:a.eval x=Z u j b) (H:bK w S e bo fZ l) (L:l.length=n) (N:aB w u b l2) (r:l2.length=j) (g:n+j<=140737488355328)
 (h:∀v c w',bK w' (fun k=>cw l bo=M k∨w.heap.size<=k) e v c (l++l2)->am (fun k=>cw l bo=M k) w w'->f (a.put o.dst (Z v (n+j) c)) w') :
 if Region.wanted o (yielded d a.tmps)=true then Oper.wp P o a w f aam else E:=by
 have T:Region.wanted o (yielded d a.tmps)=true:=by simp[Region.wanted,m]
 rw[if_pos T];exact Hs s x t y e i z B C p q D G H L N r g h
end
section
variable {w w':X} {S S' T:Nat->Prop} {t:Nat} {ao:ag} {cap:Nat} {l:ab}
theorem bK.r (h:bK w S t ao cap l){k:Nat}(e:cw l ao=M k):S k∧k<w.heap.size:=by
 unfold cw at e;split at e
 . cases e
 . rename_i b;rcases h with ⟨_,c,d⟩ | ⟨f,_⟩
   . cases ao with
     | none=>cases e
     | some a=>injection e with e;subst e;exact⟨d a rfl,(c.a a rfl).2⟩
   . exact absurd f b
theorem bK.y (h:bK w S t ao cap l)(f:am T w w')(g:∀k,S k->cw l ao=M k->k<w.heap.size->¬T k∧S' k):bK w' S' t ao cap l:=by
 rcases h with ⟨b,c,i⟩ | h
 . have d:∀a,ao=M a->¬T a.block∧S' a.block:=fun a e=>g _ (i a e) (by unfold cw;rw[if_neg b,e];rfl) (c.a a e).2;exact A ⟨b,c.j f (fun a e=>(d a e).1),fun a e=>(d a e).2⟩
 . exact R h
theorem bK.H (h:bK w S t ao cap l)(d:∀k,S k->cw l ao=M k->k<w.heap.size->S' k):bK w S' t ao cap l:=h.y (am.B (fun _=>False) w) (fun k a b c=>⟨fun e=>e,d k a b c⟩)
end
def mF (x:aL×em):Option Nat:=cw x.1.b x.2.a
def mK (us:List (aL×em)):Prop:=∀(i j:Nat) (x y:aL×em),us[i]? = M x->us[j]? = M y->i≠j->∀k,mF x=M k->mF y≠M k
theorem mK.j:mK []:=fun i j x y h=>by simp at h
theorem mK.r {a:List (aL×em)}{x:aL×em}(h:mK a)(b:∀y∈a,∀k,mF y=M k->mF x≠M k):mK (a++[x]):=by grind [mK,mF]
theorem mK.a {a:List (aL×em)}{x:aL×em}(h:mK a)(i:Nat)(b:∀j y,a[j]? = M y->j≠i->∀k,mF y=M k->mF x≠M k):mK (a.set i x):=by grind [mK,mF]
theorem mK.f {a:List (aL×em)}(h:mK a)(i:Nat):mK (a.eraseIdx i):=by grind [mK]
def dN (w:X)(S:Nat->Prop)(tU tB:Nat)(ao:ag)(cap:Nat)(l:List aL):Prop :=
 ∃us:List (aL×em),us.map (·.1)=l∧aK w 0 tU 5 ao cap l.length (dd us)∧(∀a,ao=M a->S a.block)∧(∀x∈us,bK w (fun k=>S k∧aw ao≠M k) tB x.2.a x.2.b x.1.b)∧mK us
section
variable {w w' w1:X} {S S' N:Nat->Prop} {tU tB:Nat} {ao:ag} {cap:Nat} {l:List aL}
theorem dN.jY (w:X)(S:Nat->Prop)(tU tB:Nat):dN w S tU tB U 0 []:=⟨[],rfl,aK.y _ _ _ _,fun a e=>(by cases e),fun p b=>(by cases b),mK.j⟩
theorem dN.r (h:dN w S tU tB ao cap l):AD w S tU ao cap l:=by
 obtain⟨a,b,c,d,e,_⟩:=h;exact⟨a,b,c,d,fun x f=>(e x f).G⟩
theorem dN.j (h:dN w S tU tB ao cap l):qb w ao cap l:=h.r.f
theorem dN.f (h:dN w S tU tB ao cap l):l.length<=cap:=by
 obtain⟨b,c,a,d,e,_⟩:=h;exact a.a.1
theorem dN.y (h:dN w S tU tB ao cap l)(b:am S' w w')(c:∀k,S k->¬S' k):dN w' S tU tB ao cap l:=by
 obtain⟨f,g,i,d,j,m⟩:=h;exact⟨f,g,i.j b (fun a e=>c _ (d a e)),d,fun x n=>(j x n).a b (fun k e=>c k e.1),m⟩
theorem dN.a (h:dN w S tU tB ao cap l)(b:∀k,k<w.heap.size->S k->S' k):dN w S' tU tB ao cap l:=by
 obtain⟨d,f,c,g,i,j⟩:=h;exact⟨d,f,c,fun a e=>b _ (c.f a e).2 (g a e),fun x m=>(i x m).j (fun k n e=>⟨b k n e.1,e.2⟩),j⟩
theorem dN.B (h:dN w S tU tB ao cap l)(a:Below w.heap.size w w'):dN w' S tU tB ao cap l:=h.y (am.f (S:=fun _=>False) a) (fun _ _ e=>e)
theorem B7 {S:Nat->Prop}(b:∀a,ao=M a->S a.block):∀k,aw ao=M k->S k:=fun k e=>by
 cases ao with
 | none=>cases e
 | some a=>injection e with e;subst e;exact b a rfl
theorem dN.kU {W:X}(h:dN W S tU tB ao cap l)(m:Obj):∃xs,aK (W.alloc m) 0 tU 5 ao cap l.length xs ∧
 ∀gL b w' (u:aL) (s:em) (N:Nat->Prop),bK W N tB s.a s.b u.b->(∀k,S k->¬N k)->aK w' 0 tU 5 gL b (l.length+1) (xs++dv u s)->(W.alloc m).grownBy w' (aw ao)->(aw gL=aw ao∨aw gL=M (W.alloc m).heap.size)->dN w' (fun k=>S k∨N k∨W.heap.size<=k) tU tB gL b (l++[u])∧am S W w':=by
 obtain⟨p,z,B,C,q,D⟩:=h;have r:Below W.heap.size W (W.alloc m):=(ar _ _).alloc (ak _) _;have n:=B7 C;refine⟨dd p,B.B r,fun gL b w' u s N t v G H d=>?_⟩;have o:=(am.f r).a (am.G H (fun k e=>e)) (fun _ e _=>e);have f:∀k,k<W.heap.size->aw ao≠M k->aw gL≠M k:=fun k c h e=>by
  rcases d with g | g
  . rw[g] at e;exact h e
  . rw[g,bF] at e;injection e with e;omega
 refine⟨⟨p++[(u,s)],by simp[z],by rw[ym,SN,aD];exact G,fun a e=>?_,fun x i=>?_,D.r fun y L k T kx=>v k ((q y L).r T).1.1 (t.r kx).1⟩,o.j (fun k e=>n k e)⟩
 . subst e;rcases d with g | g
   . exact A (n _ (g.symm.trans rfl))
   . rw[bF] at g;injection g with g;exact R (R (by omega))
 . rcases eC.1 i with i | i
   . exact(q x i).y o (fun k e _ c=>⟨e.2,A e.1,f k c e.2⟩)
   . rw[cY.1 i];have j:∀k,N k->aw ao≠M k:=fun k c e=>v k (n k e) c;exact t.y o (fun k e _ c=>⟨j k e,R (A e),f k c (j k e)⟩)
theorem dN.lH {g i j:Nat}{v:Value}{u:aL}(h:dN w S tU tB (M ⟨g,0,U⟩) cap l)(B:i<l.length)(m:j<5)(C:∀s,(dv l[i] s).set j v=dv u s)(D:u.b=l[i].b):dN (w.setCell ⟨g,i*5+j,U⟩ v) S tU tB (M ⟨g,0,U⟩) cap (l.set i u)∧am (fun k=>k=g) w (w.setCell ⟨g,i*5+j,U⟩ v):=by
 obtain⟨a,rfl,G,H,o,p⟩:=h;have b:i<a.length:=by simpa using B
 have q:am (fun k=>k=g) w (w.setCell ⟨g,i*5+j,U⟩ v):=am.r (fun k=>k=g) w _ _ rfl;have c:u.b=a[i].1.b:=by rw[D,eu]
 have d:mF (u,a[i].2)=mF a[i]:=by unfold mF;simp only;rw[c]
 refine⟨⟨a.set i (u,a[i].2),by rw[List.map_set],?_,H,fun x f=>?_,p.a i fun j y n m k L r=>?_⟩,q⟩
 . have t:=(od G (i*5+j) v).1;rw[zo a i b j v (u,a[i].2) m (by have:=C a[i].2;rw[eu] at this;exact this)] at t;rw[pI];exact t
 . have z:∀y:aL×em,bK w (fun k=>S k∧aw (M ⟨g,0,U⟩)≠M k) tB y.2.a y.2.b y.1.b->bK (w.setCell ⟨g,i*5+j,U⟩ v) (fun k=>S k∧aw (M ⟨g,0,U⟩)≠M k) tB y.2.a y.2.b y.1.b:=fun y n=>n.a q (fun k e T=>e.2 (by subst T;rfl));rcases List.mem_or_eq_of_mem_set f with f | f
   . exact z x (o x f)
   . subst f;have:=z a[i] (o a[i] (fb b));show bK _ _ _ a[i].2.a a[i].2.b u.b;rw[c];exact this
 . rw[d] at r;exact p j i y a[i] n (iz b) m k L r
theorem dN.G (h:dN w S tU tB ao cap l)(i:Nat)(v:i<l.length):∃(g:Nat) (s:em),ao=M ⟨g,0,U⟩∧S g∧g<w.heap.size∧w.cell? ⟨g,i*5,U⟩=M (I J l[i].c)∧w.cell? ⟨g,i*5+1,U⟩=M (I J l[i].a)∧w.cell? ⟨g,i*5+2,U⟩=M (V l[i].d)∧w.cell? ⟨g,i*5+3,U⟩=M (Z s.a l[i].b.length s.b)∧w.cell? ⟨g,i*5+4,U⟩=M (I J l[i].e)∧(∀j,w.frozen? ⟨g,j,U⟩=false)∧bK w (fun k=>S k∧k≠g) tB s.a s.b l[i].b ∧
 ∀w1 o p bs n,bK w1 (fun k=>cw l[i].b s.a=M k∨w.heap.size<=k) tB o p bs->am (fun k=>cw l[i].b s.a=M k) w w1->n=bs.length->dN (w1.setCell ⟨g,i*5+3,U⟩ (Z o n p)) (ay S w) tU tB (M ⟨g,0,U⟩) cap (l.set i { l[i] with b:=bs })∧am S w (w1.setCell ⟨g,i*5+3,U⟩ (Z o n p)):=by
 have hU:=h.j.a i v;obtain⟨g,hg,q,_,_⟩:=h.r.a i v;subst hg;obtain⟨c,rfl,r,h3,z,B⟩:=h;have d:i<c.length:=by simpa using v
 have t:∀j,j<5->w.cell? ⟨g,i*5+j,U⟩=(dv c[i].1 c[i].2)[j]?:=fun j f=>by
  rw[qZ r (i*5+j) (by omega),oX c i d j f]
 have hx:=z _ (fb d);have u:bK w (fun k=>S k∧k≠g) tB c[i].2.a c[i].2.b c[i].1.b:=hx.H (fun k e _ _=>⟨e.1,fun m=>e.2 (by subst m;rfl)⟩);simp only[eu];refine⟨g,c[i].2,rfl,q,(r.f _ rfl).2,t 0 (by decide),t 1 (by decide),t 2 (by decide),t 3 (by decide),t 4 (by decide),fun j=>sK r j,u,fun w1 o p bs n H C hn=>?_⟩;subst hn;have b:∀k,cw c[i].1.b c[i].2.a=M k->S k∧k≠g:=fun k e=>(u.r e).1;have hgl:g<w.heap.size:=(r.f _ rfl).2;have jG:am S w (w1.setCell ⟨g,i*5+3,U⟩ (Z o bs.length p)):=(C.j (fun k e=>(b k e).1)).a (am.r S w1 _ _ q) (fun _ e _=>e);have L:am (fun k=>k=g) w1 (w1.setCell ⟨g,i*5+3,U⟩ (Z o bs.length p)):=am.r (fun k=>k=g) w1 _ _ rfl;have LB:aK w1 0 tU 5 (M ⟨g,0,U⟩) cap (c.map (·.1)).length (dd c):=r.j C (fun a e h=>by injection e with e;subst e;exact(b _ h).2 rfl);refine⟨⟨c.set i ({ c[i].1 with b:=bs },⟨o,p⟩),by rw[List.map_set],?_,fun a e=>A (h3 a e),fun x D=>?_,B.a i fun j y T f k W kx=>?_⟩,jG⟩
 . have LA:=(od LB (i*5+3) (Z o bs.length p)).1;rw[zo c i d 3 _ ({ c[i].1 with b:=bs },⟨o,p⟩) (by decide) rfl] at LA;rw[pI];exact LA
 . obtain⟨j,f⟩:=List.getElem?_of_mem D;rw[List.getElem?_set] at f;split at f
   . rename_i e;first | rw[if_pos d] at f | skip
     injection f with f;subst f;refine(H.H (S':=fun k=>ay S w k∧k≠g) (fun k h _ _=>?_)).y L (fun k e _ _=>⟨e.2,e.1,fun m=>e.2 (by injection m with m;exact m.symm)⟩);rcases h with h | h
     . exact⟨A (b k h).1,(b k h).2⟩
     . exact⟨R h,by omega⟩
   . rename_i e;have hm:=nw f;have G:bK w1 (fun k=>S k∧k≠g) tB x.2.a x.2.b x.1.b:=(z x hm).y C (fun k e1 m _=>⟨fun e3=>B j i x c[i] f (iz d) (fun e4=>e e4.symm) k m e3,e1.1,fun e5=>e1.2 (by subst e5;rfl)⟩);exact G.y L (fun k e _ _=>⟨e.2,A e.1,fun m=>e.2 (by injection m with m;exact m.symm)⟩)
 . rcases(H.r kx).1 with e | e
   . exact B j i y c[i] T (iz d) f k W e
   . have:=((z y (nw T)).r W).2;omega
theorem PB (a:List (aL×em))(i:Nat):dd (a.eraseIdx i)=dd (a.take i)++dd (a.drop (i+1)):=by rw[List.eraseIdx_eq_take_drop_succ,ym]
theorem dN.jK (h:dN w S tU tB ao cap l)(i:Nat)(m:i<l.length):∃c:List (aL×em),c.length=l.length∧aK w 0 tU 5 ao cap l.length (dd c) ∧
 ∀w' gL b,aK w' 0 tU 5 gL b (l.length-1) (dd (c.eraseIdx i))->am (fun k=>aw ao=M k) w w'->(∀k,aw gL=M k->aw ao=M k∨w.heap.size<=k)->dN w' (ay S w) tU tB gL b (l.eraseIdx i)∧am S w w':=by
 obtain⟨c,rfl,n,o,p,q⟩:=h;have f:=B7 o;refine⟨c,by simp,n,fun w' gL b r j d=>⟨⟨c.eraseIdx i,by simp[List.eraseIdx_eq_take_drop_succ,List.map_take,List.map_drop],?_,fun a e=>?_,fun x s=>?_,q.f i⟩,j.j f⟩⟩
 . rw[List.length_eraseIdx_of_lt m];exact r
 . subst e;rcases d _ rfl with g | g
   . exact A (f _ g)
   . exact R g
 . refine(p x (List.mem_of_mem_eraseIdx s)).y j (fun k e _ u=>⟨e.2,A e.1,fun t=>?_⟩);rcases d k t with g | g
   . exact e.2 g
   . omega
end
def pa:List Value->Nat->List Value->List Value
 | xs,_,[]=>xs
 | xs,o,v::vs=>pa (xs.set o v) (o+1) vs
theorem EK:∀(a xs:List Value) (o j:Nat),(pa xs o a)[j]? = if o<=j∧j<o+a.length∧j<xs.length then a[j-o]? else xs[j]?:=by intro l;induction l <;> grind [pa]
theorem LZ:∀(a xs:List Value) (o:Nat),(pa xs o a).length=xs.length:=by intro l;induction l <;> grind [pa]
section
variable {w w':X} {S S':Nat->Prop} {t k g cap n:Nat} {xs:List Value}
theorem aK.H:∀(a:List Value) (o:Nat) {xs:List Value} {w:X},aK w 0 t k (M ⟨g,0,U⟩) cap n xs->aK (w.setCells g o a) 0 t k (M ⟨g,0,U⟩) cap n (pa xs o a)
 | [],_,_,_,h=>h
 | v::a,o,xs,w,h=>by rw[World.setCells,pa];exact aK.H a (o+1) (od h o v).1
theorem vz (g:Nat):∀(a:List Value) (o:Nat) (w:X),am (fun k=>k=g) w (w.setCells g o a)
 | [],_,w=>am.B _ w
 | v::a,o,w=>by rw[World.setCells];exact(am.r (fun k=>k=g) w _ _ rfl).a (vz g a (o+1) _) (fun _ e _=>e)
theorem aK.kU (h:aK w 0 t k (M ⟨g,0,U⟩) cap n xs)(m:Nat)(f:m<=n):aK w 0 t k (M ⟨g,0,U⟩) cap m (xs.take (m*k)):=by
 have r:=h.1;have b:=Nat.mul_le_mul_right k f;refine⟨by rw[bU];omega,?_⟩;rcases h.2 with ⟨e,_⟩ | ⟨s,d,c,e,i,j,u,l,o,p⟩
 . simp at e
 . injection e with a v q;injection a with a;injection a with a;subst a;subst q;exact R ⟨g,cap,c,rfl,i,j,by omega,l,o,by rw[<-p,List.take_take,pN b]⟩
theorem aK.jY (h:aK w 0 t k (M ⟨g,0,U⟩) cap n xs)(i:Nat)(m:i<n)(b:List Value):aK ((w.setCells g (i*k) (xs.drop ((i+1)*k))).setCells g ((n-1)*k) b) 0 t k (M ⟨g,0,U⟩) cap (n-1) (xs.take (i*k)++xs.drop ((i+1)*k)):=by
 have o:=h.1;have d:=((h.H (xs.drop ((i+1)*k)) (i*k)).H b ((n-1)*k)).kU (n-1) (by omega);have e:(i+1)*k=i*k+k:=Nat.succ_mul i k;have f:n*k=(n-1)*k+k:=by rw[<-Nat.succ_mul,show(n-1).succ=n by omega]
 have l:i*k<=(n-1)*k:=Nat.mul_le_mul_right k (by omega);refine(lL (aK _ 0 t k (M ⟨g,0,U⟩) cap (n-1)) ?_).mp d;refine List.ext_getElem? fun j=>?_;rw[List.getElem?_take,List.getElem?_append,bU,List.getElem?_take,List.getElem?_drop];by_cases c:j<(n-1)*k
 . rw[if_pos c,EK,if_neg (by omega),EK,cO];by_cases a:j<i*k
   . rw[if_neg (by omega),if_pos (by omega),if_pos a]
   . rw[if_pos (by omega),if_neg (by omega),List.getElem?_drop,pN (by omega)]
 . rw[if_neg c,if_neg (by omega),xU (by omega)]
end
theorem KL {P:Program}(w:X)(t e k:TypeId)(z:Value)(l:P.underlying t=M (.slice e))(m:∀w,(zeroValue e).run P w=.ok z w)(f:∀v∈z.cells.toList,v.oneCell'=true)(b o c:Nat)
 (n:∀j,j<z.cells.size->(w.cell? ⟨b,o+j,U⟩).isSome=true) (p:∀j,j<z.cells.size->w.frozen? ⟨b,o+j,U⟩=false) :
 (Builtin.clear_ #[t] k #[Z (M ⟨b,o,U⟩) 1 c]).run P w=.ok (.tuple #[]) (w.setCells b o z.cells.toList):=by
 have d:Builtin.zeroCells z.cells 1=z.cells:=by
  apply Array.ext
  . simp[Builtin.zeroCells]
  . intro i f g;simp[Builtin.zeroCells,Nat.mod_eq_of_lt g];exact getElem!_pos z.cells i g
 have a:=run_storeCells_cells (P:=P) b o z.cells.toList 0 w (by simpa using n) (by simpa using p) f;simp only[mA] at a;simp[Builtin.clear_,run_underlying l,m,d,a]
def gI (w:X)(S:Nat->Prop)(tO tU tB g:Nat)(s:aA):Prop:=∃ao cap,w.heap[g]? = M (K #[Z ao s.l.length cap,I J s.a] tO (0,0))∧S g∧dN w (fun k=>S k∧k≠g) tU tB ao cap s.l
section
variable {w w' w1:X} {S S' N:Nat->Prop} {tO tU tB g:Nat} {s:aA}
theorem gI.y (h:gI w S tO tU tB g s)(b:am S' w w')(c:∀k,S k->¬S' k):gI w' S tO tU tB g s:=by
 obtain⟨f,a,i,d,j⟩:=h;exact⟨f,a,b.y i (c g d),d,j.y b (fun k e=>c k e.1)⟩
theorem gI.r (h:gI w S tO tU tB g s):g<w.heap.size:=by grind [gI]
theorem gI.f (h:gI w S tO tU tB g s)(b:∀k,k<w.heap.size->S k->S' k):gI w S' tO tU tB g s:=by
 have c:=h.r;obtain⟨d,a,f,i,j⟩:=h;exact⟨d,a,f,b g c i,j.a (fun k l e=>⟨b k l e.1,e.2⟩)⟩
theorem gI.a (h:gI w S tO tU tB g s)(a:Below w.heap.size w w'):gI w' S tO tU tB g s:=h.y (am.f (S:=fun _=>False) a) (fun _ _ e=>e)
theorem gI.B {v:Value}{last:Int}{a:List aL}{ao:ag}{cap n:Nat}(c:w1.heap[g]? = M (K #[v,I J last] tO (0,0)))(d:S g)(f:dN w1 (fun k=>S k∧k≠g) tU tB ao cap a)(i:n=a.length):gI (w1.setCell ⟨g,0,U⟩ (Z ao n cap)) S tO tU tB g ⟨a,last⟩∧am (fun k=>k=g) w1 (w1.setCell ⟨g,0,U⟩ (Z ao n cap)):=by
 subst i;have b:am (fun k=>k=g) w1 (w1.setCell ⟨g,0,U⟩ (Z ao a.length cap)):=am.r (fun k=>k=g) w1 _ _ rfl;exact⟨⟨ao,cap,aP w1 g 0 _ tO _ c,d,f.y b (fun k e j=>e.2 j)⟩,b⟩
theorem gI.j (h:gI w S tO tU tB g s):∃ao cap,w.cell? ⟨g,0,U⟩=M (Z ao s.l.length cap)∧w.cell? ⟨g,1,U⟩=M (I J s.a)∧w.frozen? ⟨g,0,U⟩=false∧w.frozen? ⟨g,1,U⟩=false∧w.heap[g]? = M (K #[Z ao s.l.length cap,I J s.a] tO (0,0))∧S g∧dN w (fun k=>S k∧k≠g) tU tB ao cap s.l:=by
 obtain⟨ao,cap,a,b,c⟩:=h;exact⟨ao,cap,aq w g 0 _ _ _ a,aq w g 1 _ _ _ a,aN w g 0 _ _ a,aN w g 1 _ _ a,a,b,c⟩
end
theorem wZ (x y:ae):∀u∈([V x,V y]:List Value),u.oneCell'=true:=fun u a=>by simp at a;rcases a with rfl | rfl <;> rfl
theorem yc (W:X)(x y:ae)(t:Nat){k:Nat}(a:W.heap.size=k):∀j u,([V x,V y]:List Value)[j]? = M u->(W.alloc (K #[V x,V y] t)).cell? (Addr.add ⟨k,0,U⟩ j)=M u:=fun j u b=>by
 rw[ge,ee,World.cell?_alloc_at _ _ _ _ a.symm,mD];exact b
theorem Tp {a w5:X}{x y:ae}{t:Nat}(h:Below (a.alloc (K #[V x,V y] t)).drew.heap.size (a.alloc (K #[V x,V y] t)).drew w5):∀j u,([V x,V y]:List Value)[j]? = M u->w5.cell? (Addr.add ⟨a.heap.size,0,U⟩ j)=M u:=fun j u c=>by
 have d:=yc a x y t rfl j u c;have b:=d;exact(h.cell (bY _ _ b)).trans b
theorem Gj {c W d:X}{b t:Nat}{ao:ag}{cap n:Nat}{xs:List Value}{w5:X}(f:Below c.heap.size c W)(g:aK w5 b t 2 ao cap n xs)(i:W.grownBy d (Value.slice ao n cap).ownBlock)(j:c.heap.size<=b):Below c.heap.size c d :=
 f.grown i f.size (fun q e=>by
  rw[dq] at e;cases ao with
  | none=>cases e
  | some a=>injection e with e;subst e;have:=(g.f a rfl).1;omega)
def kN:aL:=⟨0,0,⟨#[]⟩,[],0⟩
theorem Qv (n:Nat):(madeCells #[I J 0,I J 0,V ⟨#[]⟩,Z U 0 0,I J 0] (n*5)).toList=dd (List.replicate n (kN,⟨U,0⟩)):=by
 refine List.ext_getElem? fun j=>?_;by_cases c:j<n*5
 . have d:j=(j / 5)*5+j % 5:=by omega
   have e:j / 5<n:=by omega
   have a:j % 5<5:=Nat.mod_lt _ (by decide);have b:=oX (List.replicate n (kN,⟨U,0⟩)) (j / 5) (by simpa using e) (j % 5) a;rw[<-d] at b;rw[b,Array.getElem?_toList];have f:(#[Value.int J 0,I J 0,V ⟨#[]⟩,Z U 0 0,I J 0]:Array Value).size=5:=rfl;simp only[madeCells,Array.getElem?_map,List.getElem_replicate];rw[Array.getElem?_range,if_pos c,f,Option.map_some];generalize j % 5=r at a ⊢;match r,a with
   | 0,_=>rfl
   | 1,_=>rfl
   | 2,_=>rfl
   | 3,_=>rfl
   | 4,_=>rfl
 . rw[xU (by simp[madeCells];omega),xU (by rw[vL,List.length_replicate];omega)]
theorem E4:∀(b:List (aL×em)) (i:Nat) (_:i<b.length) (x:aL×em),(((((dd b).set (i*5) (I J x.1.c)).set (i*5+1) (I J x.1.a)).set (i*5+2) (V x.1.d)).set (i*5+3) (Z x.2.a x.1.b.length x.2.b)).set (i*5+4) (I J x.1.e)=dd (b.set i x)
 | p::t,0,_,x=>rfl
 | p :: t, i + 1, hi, x => by
   have c:=E4 t i (by simpa using hi) x;have e:∀(a:List Value) (k:Nat) (v:Value),(dv p.1 p.2++a).set ((i+1)*5+k) v=dv p.1 p.2++a.set (i*5+k) v:=fun a k v=>by
    rw[sy _ _ (by rw[show(dv p.1 p.2).length=5 from rfl];omega),show(dv p.1 p.2).length=5 from rfl,show(i+1)*5+k-5=i*5+k by omega]
   have d:∀(a:List Value) (v:Value),(dv p.1 p.2++a).set ((i+1)*5) v=dv p.1 p.2++a.set (i*5) v:=fun a v=>e a 0 v;show(((((dv p.1 p.2++dd t).set ((i+1)*5) _).set _ _).set _ _).set _ _).set _ _=dv p.1 p.2++dd (t.set i x);rw[d,e,e,e,e,c]
section
variable {w w':X} {S N:Nat->Prop} {tU tB g cap n:Nat} {l:List aL}
theorem dN.lI (h:aK w 0 tU 5 (M ⟨g,0,U⟩) cap n (dd (List.replicate n (kN,⟨U,0⟩))))(d:S g):dN w S tU tB (M ⟨g,0,U⟩) cap (List.replicate n kN):=by
 refine⟨List.replicate n (kN,⟨U,0⟩),by simp,by rw[List.length_replicate];exact h,fun a e=>by injection e with e;subst e;exact d,fun x b=>?_,fun i j x y b f _ k c=>?_⟩
 . rw[List.eq_of_mem_replicate b];exact bK.f _ _ _
 . rw[List.eq_of_mem_replicate (nw b)] at c;simp[mF,cw,kN] at c
theorem dN.H {i:Nat}{u:aL}{bo:ag}{fZ f:Nat}(h:dN w S tU tB (M ⟨g,0,U⟩) cap l)(C:i<l.length)(s:bK w N tB bo fZ u.b)(m:∀k,N k->¬S k)(o:f=u.b.length):
 dN (((((w.setCell ⟨g,i*5,U⟩ (I J u.c)).setCell ⟨g,i*5+1,U⟩ (I J u.a)).setCell ⟨g,i*5+2,U⟩ (V u.d)).setCell ⟨g,i*5+3,U⟩ (Z bo f fZ)).setCell ⟨g,i*5+4,U⟩ (I J u.e)) (fun k=>S k∨N k) tU tB (M ⟨g,0,U⟩) cap (l.set i u) ∧
 am (fun k=>k=g) w (((((w.setCell ⟨g,i*5,U⟩ (I J u.c)).setCell ⟨g,i*5+1,U⟩ (I J u.a)).setCell ⟨g,i*5+2,U⟩ (V u.d)).setCell ⟨g,i*5+3,U⟩ (Z bo f fZ)).setCell ⟨g,i*5+4,U⟩ (I J u.e)):=by
 subst o;obtain⟨p,rfl,D,t,v,G⟩:=h;have q:i<p.length:=by simpa using C
 have r:=vz g [I J u.c,I J u.a,V u.d,Z bo u.b.length fZ,I J u.e] (i*5) w;have z:=(od (od (od (od (od D (i*5) (I J u.c)).1 (i*5+1) (I J u.a)).1 (i*5+2) (V u.d)).1 (i*5+3) (Z bo u.b.length fZ)).1 (i*5+4) (I J u.e)).1;have B:=E4 p i q (u,⟨bo,fZ⟩);simp only at B;rw[B] at z;refine⟨⟨p.set i (u,⟨bo,fZ⟩),by rw[List.map_set],by rw[pI];exact z,fun a e=>A (t a e),fun x c=>?_,G.a i fun j y H _ k L T=>?_⟩,r⟩
 . have d:=t _ rfl;rcases List.mem_or_eq_of_mem_set c with c | c
   . exact(v x c).y r (fun k e _ _=>⟨fun b=>e.2 (by subst b;rfl),A e.1,e.2⟩)
   . subst c;exact s.y r (fun k e _ _=>⟨fun b=>m k e (by subst b;exact d),R e,fun b=>m k e (by injection b with b;subst b;exact d)⟩)
 . exact m k (s.r T).1 ((v y (nw H)).r L).1.1
end
theorem Qw (l:List aL)(k:Nat)(b:k<l.length):(l.take k++List.replicate (l.length-k) kN).set k l[k]=l.take (k+1)++List.replicate (l.length-(k+1)) kN:=by
 have e:l.length-k=(l.length-(k+1))+1:=by omega
 have a:(l.take k).length=k:=by rw[bU];omega
 rw[e,List.replicate_succ,sy _ _ (by omega),a,Nat.sub_self,oP,fR b,iY];rfl
