import Derived.Test.YtodmelffkfbalaaGreatDoorPk11
import Derived.Deep.AppendLies
import Derived.Test.YtodmelffkfbalaaGreatDoorPk10
open Go.Value renaming int->I,string->V,slice->Z
open Go.IntKind renaming i64->J
open Go.Obj renaming cells->K
open Option renaming none->U,some->M
open Or renaming inl->A,inr->R
open Go renaming World->X
namespace Go.Proofs.YtodmelffkfbalaaGreatDoor
open Go.RowKit
def cq (l:ab)(bo:ag):Option Nat:=if l=[] then U else aw bo
section
variable {P:Program} (w:X)
theorem TZ (t c e:TypeId)(i:TypeInfo)(d:P.underlying t=M (.slice e))(f:P.info? e=M i)(bo b:ag)(n cap a:Nat)(g:n<=cap):
 (Builtin.append_ #[t,t] c #[Z bo n cap,Z b 0 a]).run P w=.ok (Z bo n cap) w:=by
 cases bo <;> cases b <;> simp[Builtin.append_,run_underlying d,sizeOf,typeInfo,f,Builtin.lenOf,Builtin.firstCells,loadCells,loadCellsFrom,storeCells,g]
theorem Ip (t B e:TypeId)(i:TypeInfo)(C:P.underlying t=M (.slice e))(L:P.info? e=M i)(hz:i.zero=M (I .u8 0))(o:i.size=1)(p:i.bytes=1)
 {S:Nat->Prop} {bo N:ag} {fV c n D:Nat} {l l2:ab} (h:bI w S e bo fV l) (hn:l.length=n) (hs:az w N c l2) (T:l2.length=D) (hlen:n+D<=140737488355328) :
 ∃oI b w', (Builtin.append_ #[t, t] B #[Z bo n fV, Z N D c]).run P w = .ok (Z oI (n + D) b) w' ∧
   bI w' (fun k=>cq l bo=M k∨w.heap.size<=k) e oI b (l++l2)∧ak (fun k=>cq l bo=M k) w w':=by
 subst hn;subst T;by_cases q:l2=[]
 . subst q;refine⟨bo,fV,w,?_,?_,ak.r _ _⟩
   . have hc:l.length<=fV:=h.r.1;exact TZ w t B e i C L bo N l.length fV c hc
   . rw[fx];rcases h with ⟨r,q,_⟩ | h
     . exact A ⟨r,q,fun a e=>A (by unfold cq;rw[if_neg r,e];rfl)⟩
     . exact R h
 . have m:0<l2.length:=mC.2 q;obtain⟨G,rfl⟩:=hs.nE m;have d:∀j u,(bA l2)[j]? = M u->w.cell? (G.add j)=M u:=fun j u s=>by
    have hj:j<l2.length:=by
     have:=(fw.1 s).1;rwa[dq] at this
    rw[jO l2 j hj] at s;injection s with s;subst s;exact hs.j j hj
   rcases h with ⟨r,v,hm⟩ | ⟨rfl,rfl⟩
   . obtain⟨g,b,w',H,hO,hG,f,_⟩:=run_append_lies (P:=P) w t B 0 e i (I .u8 0) 1 1 C L hz o p rfl (by decide) (Z bo l.length fV) l.length (bA l) v G l2.length c (bA l2) (by rw[dq];omega) d (tj l2) m (by unfold maxLen;omega) (by omega) (ax _) w.heap.size rfl;rw[dp] at hG f;have eB:cq l bo=aw bo:=by unfold cq;rw[if_neg r]
     refine⟨_,b,w',H,A ⟨by simp[r],?_,fun a e=>?_⟩,ak.y hG (fun k e=>by rw[eB];exact e)⟩
     . unfold bl;rw[oY,aD];exact hO
     . injection e with e;subst e;rcases f with f | f
       . exact A (by rw[eB];exact f)
       . exact R (by show w.heap.size<=g;omega)
   . have x:(Builtin.firstCells i.size 0 (Z bo 0 0)).run P w.drew=.ok ([]:List Value).toArray w.drew:=by
      cases bo <;> simp[Builtin.firstCells,loadCells,loadCellsFrom]
     have H:=run_append_grow_src (P:=P) w t t B e i (I .u8 0) C L hz bo 0 0 [] x (Z (M G) l2.length c) l2.length (bA l2) (by rw[o];exact Src.ofSlice _ C G _ c _ (by rw[dq];omega) d (tj l2)) (by omega) (by omega) (by rw[p];exact growslice_fits (by omega) (by omega));have W:=grownCap_ge w (0+l2.length) 0 e;have y:=grownCap_le_maxLen w (0+l2.length) 0 e (by unfold maxLen;omega);generalize grownCap w (0+l2.length) 0 e=b at H W y;refine⟨_,b,_,H,A ⟨by simpa using q,?_,fun a e=>?_⟩,⟨rfl,rfl,rfl,by simp,fun k hk _=>Below.heap_alloc w.drew _ k hk⟩⟩
     . rw[lc];have hzc:(Value.int IntKind.u8 0).cells.size=1:=rfl;have z:l2.length<=b:=by omega
       refine⟨by rw[dq];omega,.inr ⟨w.heap.size,b,_,by simp,ax _,be w.drew _,z,y,?_,?_⟩⟩
       . simp only[Array.size_append,cx,dq,size_zeroCells,hzc];omega
       . simp only[Array.toList_append,lc,Nat.mul_one];rw[<-dq l2];exact List.take_left
     . injection e with e;subst e;exact R (am _)
end
section
variable {P:Program} {w:X}
theorem Hv {o:Oper}{a:Act}{d:Act->X->Prop}{aaw:Exit->Act->X->Prop}(s x:Operand)(t:TypeId)
 (u:o.op=.call { callee:=.builtin .append,args:=#[s,x],argTypes:=#[t,t] })
 (e:TypeId) (i:TypeInfo) (v:P.underlying t=M (.slice e)) (y:P.info? e=M i) (z:i.zero=M (I .u8 0)) (m:i.size=1) (p:i.bytes=1)
 {S:Nat->Prop} {bo r:ag} {fV c n g:Nat} {l l2:ab} (B:a.eval s=Z bo n fV) (C:a.eval x=Z r g c) (D:bI w S e bo fV l) (G:l.length=n) (H:az w r c l2) (q:l2.length=g) (f:n+g<=140737488355328)
 (h:∀j b w',bI w' (fun k=>cq l bo=M k∨w.heap.size<=k) e j b (l++l2)->ak (fun k=>cq l bo=M k) w w'->d (a.put o.dst (Z j (n+g) b)) w'):o.wp P a w d aaw:=by
 obtain⟨j,b,w',L,N,T⟩:=Ip (P:=P) w t o.type e i v y z m p D G H q f;unfold Oper.wp execOp;simp only[u,resolve,invoke,builtin,Sem.run_bind,Sem.run_pure,Result.andThen_ok,List.map_toArray,List.map_cons,List.map_nil,B,C,L];exact h j b w' N T
theorem xU {d:Array Oper}{rest:List Oper}{o:Oper}{a:Act}{aaw:Exit->Act->X->Prop}(m:o.guard=U)(s x:Operand)(t:TypeId)
 (v:o.op=.call { callee:=.builtin .append,args:=#[s,x],argTypes:=#[t,t] })
 (e:TypeId) (i:TypeInfo) (y:P.underlying t=M (.slice e)) (z:P.info? e=M i) (B:i.zero=M (I .u8 0)) (p:i.size=1) (q:i.bytes=1)
 {S:Nat->Prop} {bo u:ag} {fV c n g:Nat} {l l2:ab} (C:a.eval s=Z bo n fV) (D:a.eval x=Z u g c) (G:bI w S e bo fV l) (H:l.length=n) (L:az w u c l2) (r:l2.length=g) (f:n+g<=140737488355328)
 (h:∀j b w',bI w' (fun k=>cq l bo=M k∨w.heap.size<=k) e j b (l++l2)->ak (fun k=>cq l bo=M k) w w'->wpList P d aaw rest (a.put o.dst (Z j (n+g) b)) w'):wpList P d aaw (o::rest) a w :=
 wpList_plain m fun _ N=>Hv s x t v e i y z B p q C D G H L r f fun j b w' T W=>N _ _ (h j b w' T W)
theorem Bz {d:Array Oper}{o:Oper}{a:Act}{f:Act->X->Prop}{aaw:Exit->Act->X->Prop}{E:Prop}(m:o.guard=U)(s x:Operand)(t:TypeId)
 (y:o.op=.call { callee:=.builtin .append,args:=#[s,x],argTypes:=#[t,t] })
 (e:TypeId) (i:TypeInfo) (z:P.underlying t=M (.slice e)) (B:P.info? e=M i) (C:i.zero=M (I .u8 0)) (p:i.size=1) (q:i.bytes=1)
 {S:Nat->Prop} {bo u:ag} {fV b n j:Nat} {l l2:ab} (D:a.eval s=Z bo n fV) (G:a.eval x=Z u j b) (H:bI w S e bo fV l) (L:l.length=n) (N:az w u b l2) (r:l2.length=j) (g:n+j<=140737488355328)
 (h:∀v c w',bI w' (fun k=>cq l bo=M k∨w.heap.size<=k) e v c (l++l2)->ak (fun k=>cq l bo=M k) w w'->f (a.put o.dst (Z v (n+j) c)) w') :
 if Region.wanted o (yielded d a.tmps)=true then Oper.wp P o a w f aaw else E:=by
 have T:Region.wanted o (yielded d a.tmps)=true:=by simp[Region.wanted,m]
 rw[if_pos T];exact Hv s x t y e i z B C p q D G H L N r g h
end
section
variable {w w':X} {S S' T:Nat->Prop} {t:Nat} {ao:ag} {cap:Nat} {l:ab}
theorem bI.j (h:bI w S t ao cap l){k:Nat}(e:cq l ao=M k):S k∧k<w.heap.size:=by
 unfold cq at e;split at e
 . cases e
 . rename_i b;rcases h with ⟨_,c,d⟩ | ⟨f,_⟩
   . cases ao with
     | none=>cases e
     | some a=>injection e with e;subst e;exact⟨d a rfl,(c.e a rfl).2⟩
   . exact absurd f b
theorem bI.q (h:bI w S t ao cap l)(f:ak T w w')(g:∀k,S k->cq l ao=M k->k<w.heap.size->¬T k∧S' k):bI w' S' t ao cap l:=by
 rcases h with ⟨b,c,i⟩ | h
 . have d:∀a,ao=M a->¬T a.block∧S' a.block:=fun a e=>g _ (i a e) (by unfold cq;rw[if_neg b,e];rfl) (c.e a e).2;exact A ⟨b,c.j f (fun a e=>(d a e).1),fun a e=>(d a e).2⟩
 . exact R h
theorem bI.B (h:bI w S t ao cap l)(d:∀k,S k->cq l ao=M k->k<w.heap.size->S' k):bI w S' t ao cap l:=h.q (ak.r (fun _=>False) w) (fun k a b c=>⟨fun e=>e,d k a b c⟩)
end
def mJ (x:aN×eu):Option Nat:=cq x.1.b x.2.a
def mL (us:List (aN×eu)):Prop:=∀(i j:Nat) (x y:aN×eu),us[i]? = M x->us[j]? = M y->i≠j->∀k,mJ x=M k->mJ y≠M k
theorem mL.f:mL []:=fun i j x y h=>by simp at h
theorem mL.j {a:List (aN×eu)}{x:aN×eu}(h:mL a)(b:∀y∈a,∀k,mJ y=M k->mJ x≠M k):mL (a++[x]):=by grind [mL,mJ]
theorem mL.a {a:List (aN×eu)}{x:aN×eu}(h:mL a)(i:Nat)(b:∀j y,a[j]? = M y->j≠i->∀k,mJ y=M k->mJ x≠M k):mL (a.set i x):=by grind [mL,mJ]
theorem mL.e {a:List (aN×eu)}(h:mL a)(i:Nat):mL (a.eraseIdx i):=by grind [mL]
def dO (w:X)(S:Nat->Prop)(tU tB:Nat)(ao:ag)(cap:Nat)(l:List aN):Prop :=
 ∃us:List (aN×eu),us.map (·.1)=l∧aL w 0 tU 5 ao cap l.length (da us)∧(∀a,ao=M a->S a.block)∧(∀x∈us,bI w (fun k=>S k∧aw ao≠M k) tB x.2.a x.2.b x.1.b)∧mL us
section
variable {w w' w1:X} {S S' N:Nat->Prop} {tU tB:Nat} {ao:ag} {cap:Nat} {l:List aN}
theorem dO.G (w:X)(S:Nat->Prop)(tU tB:Nat):dO w S tU tB U 0 []:=⟨[],rfl,aL.q _ _ _ _,fun a e=>(by cases e),fun p b=>(by cases b),mL.f⟩
theorem dO.j (h:dO w S tU tB ao cap l):AD w S tU ao cap l:=by
 obtain⟨a,b,c,d,e,_⟩:=h;exact⟨a,b,c,d,fun x f=>(e x f).y⟩
theorem dO.f (h:dO w S tU tB ao cap l):qh w ao cap l:=h.j.e
theorem dO.e (h:dO w S tU tB ao cap l):l.length<=cap:=by
 obtain⟨b,c,a,d,e,_⟩:=h;exact a.a.1
theorem dO.q (h:dO w S tU tB ao cap l)(b:ak S' w w')(c:∀k,S k->¬S' k):dO w' S tU tB ao cap l:=by
 obtain⟨f,g,i,d,j,m⟩:=h;exact⟨f,g,i.f b (fun a e=>c _ (d a e)),d,fun x n=>(j x n).a b (fun k e=>c k e.1),m⟩
theorem dO.a (h:dO w S tU tB ao cap l)(b:∀k,k<w.heap.size->S k->S' k):dO w S' tU tB ao cap l:=by
 obtain⟨d,f,c,g,i,j⟩:=h;exact⟨d,f,c,fun a e=>b _ (c.e a e).2 (g a e),fun x m=>(i x m).f (fun k n e=>⟨b k n e.1,e.2⟩),j⟩
theorem dO.r (h:dO w S tU tB ao cap l)(a:Below w.heap.size w w'):dO w' S tU tB ao cap l:=h.q (ak.e (S:=fun _=>False) a) (fun _ _ e=>e)
theorem Cl {S:Nat->Prop}(b:∀a,ao=M a->S a.block):∀k,aw ao=M k->S k:=fun k e=>by
 cases ao with
 | none=>cases e
 | some a=>injection e with e;subst e;exact b a rfl
theorem dO.jL {W:X}(h:dO W S tU tB ao cap l)(m:Obj):∃xs,aL (W.alloc m) 0 tU 5 ao cap l.length xs ∧
 ∀gL b w' (u:aN) (s:eu) (N:Nat->Prop),bI W N tB s.a s.b u.b->(∀k,S k->¬N k)->aL w' 0 tU 5 gL b (l.length+1) (xs++du u s)->(W.alloc m).grownBy w' (aw ao)->(aw gL=aw ao∨aw gL=M (W.alloc m).heap.size)->dO w' (fun k=>S k∨N k∨W.heap.size<=k) tU tB gL b (l++[u])∧ak S W w':=by
 obtain⟨p,z,B,C,q,D⟩:=h;have r:Below W.heap.size W (W.alloc m):=(ar _ _).alloc (am _) _;have n:=Cl C;refine⟨da p,B.r r,fun gL b w' u s N t v G H d=>?_⟩;have o:=(ak.e r).a (ak.y H (fun k e=>e)) (fun _ e _=>e);have f:∀k,k<W.heap.size->aw ao≠M k->aw gL≠M k:=fun k c h e=>by
  rcases d with g | g
  . rw[g] at e;exact h e
  . rw[g,bu] at e;injection e with e;omega
 refine⟨⟨p++[(u,s)],by simp[z],by rw[yl,SQ,aD];exact G,fun a e=>?_,fun x i=>?_,D.j fun y L k T kx=>v k ((q y L).j T).1.1 (t.j kx).1⟩,o.f (fun k e=>n k e)⟩
 . subst e;rcases d with g | g
   . exact A (n _ (g.symm.trans rfl))
   . rw[bu] at g;injection g with g;exact R (R (by omega))
 . rcases eJ.1 i with i | i
   . exact(q x i).q o (fun k e _ c=>⟨e.2,A e.1,f k c e.2⟩)
   . rw[cW.1 i];have j:∀k,N k->aw ao≠M k:=fun k c e=>v k (n k e) c;exact t.q o (fun k e _ c=>⟨j k e,R (A e),f k c (j k e)⟩)
theorem dO.jZ {g i j:Nat}{v:Value}{u:aN}(h:dO w S tU tB (M ⟨g,0,U⟩) cap l)(B:i<l.length)(m:j<5)(C:∀s,(du l[i] s).set j v=du u s)(D:u.b=l[i].b):dO (w.setCell ⟨g,i*5+j,U⟩ v) S tU tB (M ⟨g,0,U⟩) cap (l.set i u)∧ak (fun k=>k=g) w (w.setCell ⟨g,i*5+j,U⟩ v):=by
 obtain⟨a,rfl,G,H,o,p⟩:=h;have b:i<a.length:=by simpa using B
 have q:ak (fun k=>k=g) w (w.setCell ⟨g,i*5+j,U⟩ v):=ak.j (fun k=>k=g) w _ _ rfl;have c:u.b=a[i].1.b:=by rw[D,ej]
 have d:mJ (u,a[i].2)=mJ a[i]:=by unfold mJ;simp only;rw[c]
 refine⟨⟨a.set i (u,a[i].2),by rw[List.map_set],?_,H,fun x f=>?_,p.a i fun j y n m k L r=>?_⟩,q⟩
 . have t:=(om G (i*5+j) v).1;rw[zj a i b j v (u,a[i].2) m (by have:=C a[i].2;rw[ej] at this;exact this)] at t;rw[pP];exact t
 . have z:∀y:aN×eu,bI w (fun k=>S k∧aw (M ⟨g,0,U⟩)≠M k) tB y.2.a y.2.b y.1.b->bI (w.setCell ⟨g,i*5+j,U⟩ v) (fun k=>S k∧aw (M ⟨g,0,U⟩)≠M k) tB y.2.a y.2.b y.1.b:=fun y n=>n.a q (fun k e T=>e.2 (by subst T;rfl));rcases List.mem_or_eq_of_mem_set f with f | f
   . exact z x (o x f)
   . subst f;have:=z a[i] (o a[i] (eX b));show bI _ _ _ a[i].2.a a[i].2.b u.b;rw[c];exact this
 . rw[d] at r;exact p j i y a[i] n (iA b) m k L r
theorem dO.y (h:dO w S tU tB ao cap l)(i:Nat)(v:i<l.length):∃(g:Nat) (s:eu),ao=M ⟨g,0,U⟩∧S g∧g<w.heap.size∧w.cell? ⟨g,i*5,U⟩=M (I J l[i].c)∧w.cell? ⟨g,i*5+1,U⟩=M (I J l[i].a)∧w.cell? ⟨g,i*5+2,U⟩=M (V l[i].d)∧w.cell? ⟨g,i*5+3,U⟩=M (Z s.a l[i].b.length s.b)∧w.cell? ⟨g,i*5+4,U⟩=M (I J l[i].e)∧(∀j,w.frozen? ⟨g,j,U⟩=false)∧bI w (fun k=>S k∧k≠g) tB s.a s.b l[i].b ∧
 ∀w1 o p bs n,bI w1 (fun k=>cq l[i].b s.a=M k∨w.heap.size<=k) tB o p bs->ak (fun k=>cq l[i].b s.a=M k) w w1->n=bs.length->dO (w1.setCell ⟨g,i*5+3,U⟩ (Z o n p)) (ay S w) tU tB (M ⟨g,0,U⟩) cap (l.set i { l[i] with b:=bs })∧ak S w (w1.setCell ⟨g,i*5+3,U⟩ (Z o n p)):=by
 have hU:=h.f.a i v;obtain⟨g,hg,q,_,_⟩:=h.j.a i v;subst hg;obtain⟨c,rfl,r,h3,z,B⟩:=h;have d:i<c.length:=by simpa using v
 have t:∀j,j<5->w.cell? ⟨g,i*5+j,U⟩=(du c[i].1 c[i].2)[j]?:=fun j f=>by
  rw[rh r (i*5+j) (by omega),pd c i d j f]
 have hx:=z _ (eX d);have u:bI w (fun k=>S k∧k≠g) tB c[i].2.a c[i].2.b c[i].1.b:=hx.B (fun k e _ _=>⟨e.1,fun m=>e.2 (by subst m;rfl)⟩);simp only[ej];refine⟨g,c[i].2,rfl,q,(r.e _ rfl).2,t 0 (by decide),t 1 (by decide),t 2 (by decide),t 3 (by decide),t 4 (by decide),fun j=>sO r j,u,fun w1 o p bs n H C hn=>?_⟩;subst hn;have b:∀k,cq c[i].1.b c[i].2.a=M k->S k∧k≠g:=fun k e=>(u.j e).1;have hgl:g<w.heap.size:=(r.e _ rfl).2;have jG:ak S w (w1.setCell ⟨g,i*5+3,U⟩ (Z o bs.length p)):=(C.f (fun k e=>(b k e).1)).a (ak.j S w1 _ _ q) (fun _ e _=>e);have L:ak (fun k=>k=g) w1 (w1.setCell ⟨g,i*5+3,U⟩ (Z o bs.length p)):=ak.j (fun k=>k=g) w1 _ _ rfl;have Lv:aL w1 0 tU 5 (M ⟨g,0,U⟩) cap (c.map (·.1)).length (da c):=r.f C (fun a e h=>by injection e with e;subst e;exact(b _ h).2 rfl);refine⟨⟨c.set i ({ c[i].1 with b:=bs },⟨o,p⟩),by rw[List.map_set],?_,fun a e=>A (h3 a e),fun x D=>?_,B.a i fun j y T f k W kx=>?_⟩,jG⟩
 . have Lu:=(om Lv (i*5+3) (Z o bs.length p)).1;rw[zj c i d 3 _ ({ c[i].1 with b:=bs },⟨o,p⟩) (by decide) rfl] at Lu;rw[pP];exact Lu
 . obtain⟨j,f⟩:=List.getElem?_of_mem D;rw[List.getElem?_set] at f;split at f
   . rename_i e;first | rw[if_pos d] at f | skip
     injection f with f;subst f;refine(H.B (S':=fun k=>ay S w k∧k≠g) (fun k h _ _=>?_)).q L (fun k e _ _=>⟨e.2,e.1,fun m=>e.2 (by injection m with m;exact m.symm)⟩);rcases h with h | h
     . exact⟨A (b k h).1,(b k h).2⟩
     . exact⟨R h,by omega⟩
   . rename_i e;have hm:=nD f;have G:bI w1 (fun k=>S k∧k≠g) tB x.2.a x.2.b x.1.b:=(z x hm).q C (fun k e1 m _=>⟨fun e3=>B j i x c[i] f (iA d) (fun e4=>e e4.symm) k m e3,e1.1,fun e5=>e1.2 (by subst e5;rfl)⟩);exact G.q L (fun k e _ _=>⟨e.2,A e.1,fun m=>e.2 (by injection m with m;exact m.symm)⟩)
 . rcases(H.j kx).1 with e | e
   . exact B j i y c[i] T (iA d) f k W e
   . have:=((z y (nD T)).j W).2;omega
theorem PM (a:List (aN×eu))(i:Nat):da (a.eraseIdx i)=da (a.take i)++da (a.drop (i+1)):=by rw[List.eraseIdx_eq_take_drop_succ,yl]
theorem dO.E (h:dO w S tU tB ao cap l)(i:Nat)(m:i<l.length):∃c:List (aN×eu),c.length=l.length∧aL w 0 tU 5 ao cap l.length (da c) ∧
 ∀w' gL b,aL w' 0 tU 5 gL b (l.length-1) (da (c.eraseIdx i))->ak (fun k=>aw ao=M k) w w'->(∀k,aw gL=M k->aw ao=M k∨w.heap.size<=k)->dO w' (ay S w) tU tB gL b (l.eraseIdx i)∧ak S w w':=by
 obtain⟨c,rfl,n,o,p,q⟩:=h;have f:=Cl o;refine⟨c,by simp,n,fun w' gL b r j d=>⟨⟨c.eraseIdx i,by simp[List.eraseIdx_eq_take_drop_succ,List.map_take,List.map_drop],?_,fun a e=>?_,fun x s=>?_,q.e i⟩,j.f f⟩⟩
 . rw[List.length_eraseIdx_of_lt m];exact r
 . subst e;rcases d _ rfl with g | g
   . exact A (f _ g)
   . exact R g
 . refine(p x (List.mem_of_mem_eraseIdx s)).q j (fun k e _ u=>⟨e.2,A e.1,fun t=>?_⟩);rcases d k t with g | g
   . exact e.2 g
   . omega
end
def pk:List Value->Nat->List Value->List Value
 | xs,_,[]=>xs
 | xs,o,v::vs=>pk (xs.set o v) (o+1) vs
theorem E2:∀(a xs:List Value) (o j:Nat),(pk xs o a)[j]? = if o<=j∧j<o+a.length∧j<xs.length then a[j-o]? else xs[j]?:=by intro l;induction l <;> grind [pk]
theorem Mf:∀(a xs:List Value) (o:Nat),(pk xs o a).length=xs.length:=by intro l;induction l <;> grind [pk]
section
variable {w w':X} {S S':Nat->Prop} {t k g cap n:Nat} {xs:List Value}
theorem aL.B:∀(a:List Value) (o:Nat) {xs:List Value} {w:X},aL w 0 t k (M ⟨g,0,U⟩) cap n xs->aL (w.setCells g o a) 0 t k (M ⟨g,0,U⟩) cap n (pk xs o a)
 | [],_,_,_,h=>h
 | v::a,o,xs,w,h=>by rw[World.setCells,pk];exact aL.B a (o+1) (om h o v).1
theorem vB (g:Nat):∀(a:List Value) (o:Nat) (w:X),ak (fun k=>k=g) w (w.setCells g o a)
 | [],_,w=>ak.r _ w
 | v::a,o,w=>by rw[World.setCells];exact(ak.j (fun k=>k=g) w _ _ rfl).a (vB g a (o+1) _) (fun _ e _=>e)
theorem aL.jL (h:aL w 0 t k (M ⟨g,0,U⟩) cap n xs)(m:Nat)(f:m<=n):aL w 0 t k (M ⟨g,0,U⟩) cap m (xs.take (m*k)):=by
 have r:=h.1;have b:=Nat.mul_le_mul_right k f;refine⟨by rw[bV];omega,?_⟩;rcases h.2 with ⟨e,_⟩ | ⟨s,d,c,e,i,j,u,l,o,p⟩
 . simp at e
 . injection e with a v q;injection a with a;injection a with a;subst a;subst q;exact R ⟨g,cap,c,rfl,i,j,by omega,l,o,by rw[<-p,List.take_take,pS b]⟩
theorem aL.G (h:aL w 0 t k (M ⟨g,0,U⟩) cap n xs)(i:Nat)(m:i<n)(b:List Value):aL ((w.setCells g (i*k) (xs.drop ((i+1)*k))).setCells g ((n-1)*k) b) 0 t k (M ⟨g,0,U⟩) cap (n-1) (xs.take (i*k)++xs.drop ((i+1)*k)):=by
 have o:=h.1;have d:=((h.B (xs.drop ((i+1)*k)) (i*k)).B b ((n-1)*k)).jL (n-1) (by omega);have e:(i+1)*k=i*k+k:=Nat.succ_mul i k;have f:n*k=(n-1)*k+k:=by rw[<-Nat.succ_mul,show(n-1).succ=n by omega]
 have l:i*k<=(n-1)*k:=Nat.mul_le_mul_right k (by omega);refine(lL (aL _ 0 t k (M ⟨g,0,U⟩) cap (n-1)) ?_).mp d;refine List.ext_getElem? fun j=>?_;rw[List.getElem?_take,List.getElem?_append,bV,List.getElem?_take,List.getElem?_drop];by_cases c:j<(n-1)*k
 . rw[if_pos c,E2,if_neg (by omega),E2,cQ];by_cases a:j<i*k
   . rw[if_neg (by omega),if_pos (by omega),if_pos a]
   . rw[if_pos (by omega),if_neg (by omega),List.getElem?_drop,pS (by omega)]
 . rw[if_neg c,if_neg (by omega),xR (by omega)]
end
theorem KZ {P:Program}(w:X)(t e k:TypeId)(z:Value)(l:P.underlying t=M (.slice e))(m:∀w,(zeroValue e).run P w=.ok z w)(f:∀v∈z.cells.toList,v.oneCell'=true)(b o c:Nat)
 (n:∀j,j<z.cells.size->(w.cell? ⟨b,o+j,U⟩).isSome=true) (p:∀j,j<z.cells.size->w.frozen? ⟨b,o+j,U⟩=false) :
 (Builtin.clear_ #[t] k #[Z (M ⟨b,o,U⟩) 1 c]).run P w=.ok (.tuple #[]) (w.setCells b o z.cells.toList):=by
 have d:Builtin.zeroCells z.cells 1=z.cells:=by
  apply Array.ext
  . simp[Builtin.zeroCells]
  . intro i f g;simp[Builtin.zeroCells,Nat.mod_eq_of_lt g];exact getElem!_pos z.cells i g
 have a:=run_storeCells_cells (P:=P) b o z.cells.toList 0 w (by simpa using n) (by simpa using p) f;simp only[mA] at a;simp[Builtin.clear_,run_underlying l,m,d,a]
def gH (w:X)(S:Nat->Prop)(tO tU tB g:Nat)(s:aB):Prop:=∃ao cap,w.heap[g]? = M (K #[Z ao s.l.length cap,I J s.a] tO (0,0))∧S g∧dO w (fun k=>S k∧k≠g) tU tB ao cap s.l
section
variable {w w' w1:X} {S S' N:Nat->Prop} {tO tU tB g:Nat} {s:aB}
theorem gH.q (h:gH w S tO tU tB g s)(b:ak S' w w')(c:∀k,S k->¬S' k):gH w' S tO tU tB g s:=by
 obtain⟨f,a,i,d,j⟩:=h;exact⟨f,a,b.q i (c g d),d,j.q b (fun k e=>c k e.1)⟩
theorem gH.j (h:gH w S tO tU tB g s):g<w.heap.size:=by grind [gH]
theorem gH.e (h:gH w S tO tU tB g s)(b:∀k,k<w.heap.size->S k->S' k):gH w S' tO tU tB g s:=by
 have c:=h.j;obtain⟨d,a,f,i,j⟩:=h;exact⟨d,a,f,b g c i,j.a (fun k l e=>⟨b k l e.1,e.2⟩)⟩
theorem gH.a (h:gH w S tO tU tB g s)(a:Below w.heap.size w w'):gH w' S tO tU tB g s:=h.q (ak.e (S:=fun _=>False) a) (fun _ _ e=>e)
theorem gH.r {v:Value}{last:Int}{a:List aN}{ao:ag}{cap n:Nat}(c:w1.heap[g]? = M (K #[v,I J last] tO (0,0)))(d:S g)(f:dO w1 (fun k=>S k∧k≠g) tU tB ao cap a)(i:n=a.length):gH (w1.setCell ⟨g,0,U⟩ (Z ao n cap)) S tO tU tB g ⟨a,last⟩∧ak (fun k=>k=g) w1 (w1.setCell ⟨g,0,U⟩ (Z ao n cap)):=by
 subst i;have b:ak (fun k=>k=g) w1 (w1.setCell ⟨g,0,U⟩ (Z ao a.length cap)):=ak.j (fun k=>k=g) w1 _ _ rfl;exact⟨⟨ao,cap,aR w1 g 0 _ tO _ c,d,f.q b (fun k e j=>e.2 j)⟩,b⟩
theorem gH.f (h:gH w S tO tU tB g s):∃ao cap,w.cell? ⟨g,0,U⟩=M (Z ao s.l.length cap)∧w.cell? ⟨g,1,U⟩=M (I J s.a)∧w.frozen? ⟨g,0,U⟩=false∧w.frozen? ⟨g,1,U⟩=false∧w.heap[g]? = M (K #[Z ao s.l.length cap,I J s.a] tO (0,0))∧S g∧dO w (fun k=>S k∧k≠g) tU tB ao cap s.l:=by
 obtain⟨ao,cap,a,b,c⟩:=h;exact⟨ao,cap,aq w g 0 _ _ _ a,aq w g 1 _ _ _ a,aP w g 0 _ _ a,aP w g 1 _ _ a,a,b,c⟩
end
theorem wV (x y:ae):∀u∈([V x,V y]:List Value),u.oneCell'=true:=fun u a=>by simp at a;rcases a with rfl | rfl <;> rfl
theorem xZ (W:X)(x y:ae)(t:Nat){k:Nat}(a:W.heap.size=k):∀j u,([V x,V y]:List Value)[j]? = M u->(W.alloc (K #[V x,V y] t)).cell? (Addr.add ⟨k,0,U⟩ j)=M u:=fun j u b=>by
 rw[gg,eh,World.cell?_alloc_at _ _ _ _ a.symm,mB];exact b
theorem Tv {a w5:X}{x y:ae}{t:Nat}(h:Below (a.alloc (K #[V x,V y] t)).drew.heap.size (a.alloc (K #[V x,V y] t)).drew w5):∀j u,([V x,V y]:List Value)[j]? = M u->w5.cell? (Addr.add ⟨a.heap.size,0,U⟩ j)=M u:=fun j u c=>by
 have d:=xZ a x y t rfl j u c;have b:=d;exact(h.cell (ch _ _ b)).trans b
theorem Gr {c W d:X}{b t:Nat}{ao:ag}{cap n:Nat}{xs:List Value}{w5:X}(f:Below c.heap.size c W)(g:aL w5 b t 2 ao cap n xs)(i:W.grownBy d (Value.slice ao n cap).ownBlock)(j:c.heap.size<=b):Below c.heap.size c d :=
 f.grown i f.size (fun q e=>by
  rw[dp] at e;cases ao with
  | none=>cases e
  | some a=>injection e with e;subst e;have:=(g.e a rfl).1;omega)
def kP:aN:=⟨0,0,⟨#[]⟩,[],0⟩
theorem QF (n:Nat):(madeCells #[I J 0,I J 0,V ⟨#[]⟩,Z U 0 0,I J 0] (n*5)).toList=da (List.replicate n (kP,⟨U,0⟩)):=by
 refine List.ext_getElem? fun j=>?_;by_cases c:j<n*5
 . have d:j=(j / 5)*5+j % 5:=by omega
   have e:j / 5<n:=by omega
   have a:j % 5<5:=Nat.mod_lt _ (by decide);have b:=pd (List.replicate n (kP,⟨U,0⟩)) (j / 5) (by simpa using e) (j % 5) a;rw[<-d] at b;rw[b,Array.getElem?_toList];have f:(#[Value.int J 0,I J 0,V ⟨#[]⟩,Z U 0 0,I J 0]:Array Value).size=5:=rfl;simp only[madeCells,Array.getElem?_map,List.getElem_replicate];rw[Array.getElem?_range,if_pos c,f,Option.map_some];generalize j % 5=r at a ⊢;match r,a with
   | 0,_=>rfl
   | 1,_=>rfl
   | 2,_=>rfl
   | 3,_=>rfl
   | 4,_=>rfl
 . rw[xR (by simp[madeCells];omega),xR (by rw[vM,List.length_replicate];omega)]
theorem E9:∀(b:List (aN×eu)) (i:Nat) (_:i<b.length) (x:aN×eu),(((((da b).set (i*5) (I J x.1.c)).set (i*5+1) (I J x.1.a)).set (i*5+2) (V x.1.d)).set (i*5+3) (Z x.2.a x.1.b.length x.2.b)).set (i*5+4) (I J x.1.e)=da (b.set i x)
 | p::t,0,_,x=>rfl
 | p :: t, i + 1, hi, x => by
   have c:=E9 t i (by simpa using hi) x;have e:∀(a:List Value) (k:Nat) (v:Value),(du p.1 p.2++a).set ((i+1)*5+k) v=du p.1 p.2++a.set (i*5+k) v:=fun a k v=>by
    rw[sD _ _ (by rw[show(du p.1 p.2).length=5 from rfl];omega),show(du p.1 p.2).length=5 from rfl,show(i+1)*5+k-5=i*5+k by omega]
   have d:∀(a:List Value) (v:Value),(du p.1 p.2++a).set ((i+1)*5) v=du p.1 p.2++a.set (i*5) v:=fun a v=>e a 0 v;show(((((du p.1 p.2++da t).set ((i+1)*5) _).set _ _).set _ _).set _ _).set _ _=du p.1 p.2++da (t.set i x);rw[d,e,e,e,e,c]
section
variable {w w':X} {S N:Nat->Prop} {tU tB g cap n:Nat} {l:List aN}
theorem dO.kW (h:aL w 0 tU 5 (M ⟨g,0,U⟩) cap n (da (List.replicate n (kP,⟨U,0⟩))))(d:S g):dO w S tU tB (M ⟨g,0,U⟩) cap (List.replicate n kP):=by
 refine⟨List.replicate n (kP,⟨U,0⟩),by simp,by rw[List.length_replicate];exact h,fun a e=>by injection e with e;subst e;exact d,fun x b=>?_,fun i j x y b f _ k c=>?_⟩
 . rw[List.eq_of_mem_replicate b];exact bI.e _ _ _
 . rw[List.eq_of_mem_replicate (nD b)] at c;simp[mJ,cq,kP] at c
theorem dO.B {i:Nat}{u:aN}{bo:ag}{fV f:Nat}(h:dO w S tU tB (M ⟨g,0,U⟩) cap l)(C:i<l.length)(s:bI w N tB bo fV u.b)(m:∀k,N k->¬S k)(o:f=u.b.length):
 dO (((((w.setCell ⟨g,i*5,U⟩ (I J u.c)).setCell ⟨g,i*5+1,U⟩ (I J u.a)).setCell ⟨g,i*5+2,U⟩ (V u.d)).setCell ⟨g,i*5+3,U⟩ (Z bo f fV)).setCell ⟨g,i*5+4,U⟩ (I J u.e)) (fun k=>S k∨N k) tU tB (M ⟨g,0,U⟩) cap (l.set i u) ∧
 ak (fun k=>k=g) w (((((w.setCell ⟨g,i*5,U⟩ (I J u.c)).setCell ⟨g,i*5+1,U⟩ (I J u.a)).setCell ⟨g,i*5+2,U⟩ (V u.d)).setCell ⟨g,i*5+3,U⟩ (Z bo f fV)).setCell ⟨g,i*5+4,U⟩ (I J u.e)):=by
 subst o;obtain⟨p,rfl,D,t,v,G⟩:=h;have q:i<p.length:=by simpa using C
 have r:=vB g [I J u.c,I J u.a,V u.d,Z bo u.b.length fV,I J u.e] (i*5) w;have z:=(om (om (om (om (om D (i*5) (I J u.c)).1 (i*5+1) (I J u.a)).1 (i*5+2) (V u.d)).1 (i*5+3) (Z bo u.b.length fV)).1 (i*5+4) (I J u.e)).1;have B:=E9 p i q (u,⟨bo,fV⟩);simp only at B;rw[B] at z;refine⟨⟨p.set i (u,⟨bo,fV⟩),by rw[List.map_set],by rw[pP];exact z,fun a e=>A (t a e),fun x c=>?_,G.a i fun j y H _ k L T=>?_⟩,r⟩
 . have d:=t _ rfl;rcases List.mem_or_eq_of_mem_set c with c | c
   . exact(v x c).q r (fun k e _ _=>⟨fun b=>e.2 (by subst b;rfl),A e.1,e.2⟩)
   . subst c;exact s.q r (fun k e _ _=>⟨fun b=>m k e (by subst b;exact d),R e,fun b=>m k e (by injection b with b;subst b;exact d)⟩)
 . exact m k (s.j T).1 ((v y (nD H)).j L).1.1
end
theorem QG (l:List aN)(k:Nat)(b:k<l.length):(l.take k++List.replicate (l.length-k) kP).set k l[k]=l.take (k+1)++List.replicate (l.length-(k+1)) kP:=by
 have e:l.length-k=(l.length-(k+1))+1:=by omega
 have a:(l.take k).length=k:=by rw[bV];omega
 rw[e,List.replicate_succ,sD _ _ (by omega),a,Nat.sub_self,oX,fR b,ja];rfl
