/- Small texts, one behind the other: MemG, MemUC, MemUD, MemVA, MemPr, MemUE. -/
import Derived.Test.YthhklgjjnaeaoaaGreatDoorPk14
import Derived.Deep.AppendLies
import Derived.Test.YthhklgjjnaeaoaaGreatDoorPk13
open Go.Value renaming int->I,string->V,slice->Z
open Go.IntKind renaming i64->J
open Go.Obj renaming cells->K
open Option renaming none->U,some->M
open Or renaming inl->A,inr->R
open Go renaming World->X
namespace Go.Proofs.YthhklgjjnaeaoaaGreatDoor
open Go.RowKit
def jy (l:av)(bo:ak):Option Nat:=if l=[] then U else fV bo
section
variable {P:Program} (w:X)
theorem run_append_nothing (t c e:TypeId)(i:TypeInfo)(d:P.underlying t=M (.slice e))(f:P.info? e=M i)(bo b:ak)(n cap a:Nat)(g:n<=cap):
 (Builtin.append_ #[t,t] c #[Z bo n cap,Z b 0 a]).run P w=.ok (Z bo n cap) w:=by
 cases bo <;> cases b <;> simp[Builtin.append_,run_underlying d,sizeOf,typeInfo,f,Builtin.lenOf,Builtin.firstCells,loadCells,loadCellsFrom,storeCells,g]
theorem Ac (t B e:TypeId)(i:TypeInfo)(C:P.underlying t=M (.slice e))(L:P.info? e=M i)(hz:i.zero=M (I .u8 0))(o:i.size=1)(p:i.bytes=1)
 {S:Nat->Prop} {bo N:ak} {fU c n D:Nat} {l l2:av} (h:gK w S e bo fU l) (hn:l.length=n) (hs:gN w N c l2) (T:l2.length=D) (hlen:n+D<=140737488355328) :
 ∃nZ b w', (Builtin.append_ #[t, t] B #[Z bo n fU, Z N D c]).run P w = .ok (Z nZ (n + D) b) w' ∧
   gK w' (fun k=>jy l bo=M k∨w.heap.size<=k) e nZ b (l++l2)∧Turns (fun k=>jy l bo=M k) w w':=by
 subst hn;subst T;by_cases q:l2=[]
 . subst q;refine⟨bo,fU,w,?_,?_,Turns.refl _ _⟩
   . have hc:l.length<=fU:=h.tQ.1;exact run_append_nothing w t B e i C L bo N l.length fU c hc
   . rw[bU];rcases h with ⟨r,q,_⟩ | h
     . exact A ⟨r,q,fun a e=>A (by unfold jy;rw[if_neg r,e];rfl)⟩
     . exact R h
 . have m:0<l2.length:=eu.2 q;obtain⟨G,rfl⟩:=hs.some m;have d:∀j u,(ig l2)[j]? = M u->w.cell? (G.add j)=M u:=fun j u s=>by
    have hj:j<l2.length:=by
     have:=(aQ.1 s).1;rwa[gF] at this
    rw[kF l2 j hj] at s;injection s with s;subst s;exact hs.cell j hj
   rcases h with ⟨r,v,hm⟩ | ⟨rfl,rfl⟩
   . obtain⟨g,b,w',H,hO,hG,f,_⟩:=run_append_lies (P:=P) w t B 0 e i (I .u8 0) 1 1 C L hz o p rfl (by decide) (Z bo l.length fU) l.length (ig l) v G l2.length c (ig l2) (by rw[gF];omega) d (sG l2) m (by unfold maxLen;omega) (by omega) (aA _) w.heap.size rfl;rw[gD] at hG f;have eB:jy l bo=fV bo:=by unfold jy;rw[if_neg r]
     refine⟨_,b,w',H,A ⟨by simp[r],?_,fun a e=>?_⟩,Turns.iL hG (fun k e=>by rw[eB];exact e)⟩
     . unfold iA;rw[mE,aV];exact hO
     . injection e with e;subst e;rcases f with f | f
       . exact A (by rw[eB];exact f)
       . exact R (by show w.heap.size<=g;omega)
   . have x:(Builtin.firstCells i.size 0 (Z bo 0 0)).run P w.drew=.ok ([]:List Value).toArray w.drew:=by
      cases bo <;> simp[Builtin.firstCells,loadCells,loadCellsFrom]
     have H:=run_append_grow_src (P:=P) w t t B e i (I .u8 0) C L hz bo 0 0 [] x (Z (M G) l2.length c) l2.length (ig l2) (by rw[o];exact Src.ofSlice _ C G _ c _ (by rw[gF];omega) d (sG l2)) (by omega) (by omega) (by rw[p];exact growslice_fits (by omega) (by omega));have W:=grownCap_ge w (0+l2.length) 0 e;have y:=grownCap_le_maxLen w (0+l2.length) 0 e (by unfold maxLen;omega);generalize grownCap w (0+l2.length) 0 e=b at H W y;refine⟨_,b,_,H,A ⟨by simpa using q,?_,fun a e=>?_⟩,⟨rfl,rfl,rfl,by simp,fun k hk _=>Below.heap_alloc w.drew _ k hk⟩⟩
     . rw[dx];have hzc:(Value.int IntKind.u8 0).cells.size=1:=rfl;have z:l2.length<=b:=by omega
       refine⟨by rw[gF];omega,.inr ⟨w.heap.size,b,_,by simp,aA _,eX w.drew _,z,y,?_,?_⟩⟩
       . simp only[Array.size_append,bK,gF,size_zeroCells,hzc];omega
       . simp only[Array.toList_append,dx,Nat.mul_one];rw[<-gF l2];exact List.take_left
     . injection e with e;subst e;exact R (aM _)
end
section
variable {P:Program} {w:X}
theorem uL {o:Oper}{a:Act}{d:Act->X->Prop}{aai:Exit->Act->X->Prop}(s x:Operand)(t:TypeId)
 (u:o.op=.call { callee:=.builtin .append,args:=#[s,x],argTypes:=#[t,t] })
 (e:TypeId) (i:TypeInfo) (v:P.underlying t=M (.slice e)) (y:P.info? e=M i) (z:i.zero=M (I .u8 0)) (m:i.size=1) (p:i.bytes=1)
 {S:Nat->Prop} {bo r:ak} {fU c n g:Nat} {l l2:av} (B:a.eval s=Z bo n fU) (C:a.eval x=Z r g c) (D:gK w S e bo fU l) (G:l.length=n) (H:gN w r c l2) (q:l2.length=g) (f:n+g<=140737488355328)
 (h:∀j b w',gK w' (fun k=>jy l bo=M k∨w.heap.size<=k) e j b (l++l2)->Turns (fun k=>jy l bo=M k) w w'->d (a.put o.dst (Z j (n+g) b)) w'):o.wp P a w d aai:=by
 obtain⟨j,b,w',L,N,T⟩:=Ac (P:=P) w t o.type e i v y z m p D G H q f;unfold Oper.wp execOp;simp only[u,resolve,invoke,builtin,Sem.run_bind,Sem.run_pure,Result.andThen_ok,List.map_toArray,List.map_cons,List.map_nil,B,C,L];exact h j b w' N T
theorem kN {d:Array Oper}{rest:List Oper}{o:Oper}{a:Act}{aai:Exit->Act->X->Prop}(m:o.guard=U)(s x:Operand)(t:TypeId)
 (v:o.op=.call { callee:=.builtin .append,args:=#[s,x],argTypes:=#[t,t] })
 (e:TypeId) (i:TypeInfo) (y:P.underlying t=M (.slice e)) (z:P.info? e=M i) (B:i.zero=M (I .u8 0)) (p:i.size=1) (q:i.bytes=1)
 {S:Nat->Prop} {bo u:ak} {fU c n g:Nat} {l l2:av} (C:a.eval s=Z bo n fU) (D:a.eval x=Z u g c) (G:gK w S e bo fU l) (H:l.length=n) (L:gN w u c l2) (r:l2.length=g) (f:n+g<=140737488355328)
 (h:∀j b w',gK w' (fun k=>jy l bo=M k∨w.heap.size<=k) e j b (l++l2)->Turns (fun k=>jy l bo=M k) w w'->wpList P d aai rest (a.put o.dst (Z j (n+g) b)) w'):wpList P d aai (o::rest) a w :=
 wpList_plain m fun _ N=>uL s x t v e i y z B p q C D G H L r f fun j b w' T W=>N _ _ (h j b w' T W)
theorem nU {d:Array Oper}{o:Oper}{a:Act}{f:Act->X->Prop}{aai:Exit->Act->X->Prop}{E:Prop}(m:o.guard=U)(s x:Operand)(t:TypeId)
 (y:o.op=.call { callee:=.builtin .append,args:=#[s,x],argTypes:=#[t,t] })
 (e:TypeId) (i:TypeInfo) (z:P.underlying t=M (.slice e)) (B:P.info? e=M i) (C:i.zero=M (I .u8 0)) (p:i.size=1) (q:i.bytes=1)
 {S:Nat->Prop} {bo u:ak} {fU b n j:Nat} {l l2:av} (D:a.eval s=Z bo n fU) (G:a.eval x=Z u j b) (H:gK w S e bo fU l) (L:l.length=n) (N:gN w u b l2) (r:l2.length=j) (g:n+j<=140737488355328)
 (h:∀v c w',gK w' (fun k=>jy l bo=M k∨w.heap.size<=k) e v c (l++l2)->Turns (fun k=>jy l bo=M k) w w'->f (a.put o.dst (Z v (n+j) c)) w') :
 if Region.wanted o (yielded d a.tmps)=true then Oper.wp P o a w f aai else E:=by
 have T:Region.wanted o (yielded d a.tmps)=true:=by simp[Region.wanted,m]
 rw[if_pos T];exact uL s x t y e i z B C p q D G H L N r g h
end
section
variable {w w':X} {S S' T:Nat->Prop} {t:Nat} {ao:ak} {cap:Nat} {l:av}
theorem gK.blk (h:gK w S t ao cap l){k:Nat}(e:jy l ao=M k):S k∧k<w.heap.size:=by
 unfold jy at e;split at e
 . cases e
 . rename_i b;rcases h with ⟨_,c,d⟩ | ⟨f,_⟩
   . cases ao with
     | none=>cases e
     | some a=>injection e with e;subst e;exact⟨d a rfl,(c.block a rfl).2⟩
   . exact absurd f b
theorem gK.over (h:gK w S t ao cap l)(f:Turns T w w')(g:∀k,S k->jy l ao=M k->k<w.heap.size->¬T k∧S' k):gK w' S' t ao cap l:=by
 rcases h with ⟨b,c,i⟩ | h
 . have d:∀a,ao=M a->¬T a.block∧S' a.block:=fun a e=>g _ (i a e) (by unfold jy;rw[if_neg b,e];rfl) (c.block a e).2;exact A ⟨b,c.turns f (fun a e=>(d a e).1),fun a e=>(d a e).2⟩
 . exact R h
theorem gK.to (h:gK w S t ao cap l)(d:∀k,S k->jy l ao=M k->k<w.heap.size->S' k):gK w S' t ao cap l:=h.over (Turns.refl (fun _=>False) w) (fun k a b c=>⟨fun e=>e,d k a b c⟩)
end
def uM (x:Sp.Up×wU):Option Nat:=jy x.1.bytes x.2.bo
def Apart (us:List (Sp.Up×wU)):Prop:=∀(i j:Nat) (x y:Sp.Up×wU),us[i]? = M x->us[j]? = M y->i≠j->∀k,uM x=M k->uM y≠M k
theorem Apart.nil:Apart []:=fun i j x y h=>by simp at h
theorem Apart.push {a:List (Sp.Up×wU)}{x:Sp.Up×wU}(h:Apart a)(b:∀y∈a,∀k,uM y=M k->uM x≠M k):Apart (a++[x]):=by grind [Apart,uM]
theorem Apart.set {a:List (Sp.Up×wU)}{x:Sp.Up×wU}(h:Apart a)(i:Nat)(b:∀j y,a[j]? = M y->j≠i->∀k,uM y=M k->uM x≠M k):Apart (a.set i x):=by grind [Apart,uM]
theorem Apart.erase {a:List (Sp.Up×wU)}(h:Apart a)(i:Nat):Apart (a.eraseIdx i):=by grind [Apart]
def pK (w:X)(S:Nat->Prop)(tU tB:Nat)(ao:ak)(cap:Nat)(l:List Sp.Up):Prop :=
 ∃us:List (Sp.Up×wU),us.map (·.1)=l∧gH w 0 tU 5 ao cap l.length (sO us)∧(∀a,ao=M a->S a.block)∧(∀x∈us,gK w (fun k=>S k∧fV ao≠M k) tB x.2.bo x.2.fU x.1.bytes)∧Apart us
section
variable {w w' w1:X} {S S' N:Nat->Prop} {tU tB:Nat} {ao:ak} {cap:Nat} {l:List Sp.Up}
theorem pK.nil (w:X)(S:Nat->Prop)(tU tB:Nat):pK w S tU tB U 0 []:=⟨[],rfl,gH.nil _ _ _ _,fun a e=>(by cases e),fun p b=>(by cases b),Apart.nil⟩
theorem pK.at_ (h:pK w S tU tB ao cap l):sP w S tU ao cap l:=by
 obtain⟨a,b,c,d,e,_⟩:=h;exact⟨a,b,c,d,fun x f=>(e x f).abm⟩
theorem pK.zf (h:pK w S tU tB ao cap l):pU w ao cap l:=h.at_.zf
theorem pK.cap_ (h:pK w S tU tB ao cap l):l.length<=cap:=by
 obtain⟨b,c,a,d,e,_⟩:=h;exact a.qE.1
theorem pK.turns (h:pK w S tU tB ao cap l)(b:Turns S' w w')(c:∀k,S k->¬S' k):pK w' S tU tB ao cap l:=by
 obtain⟨f,g,i,d,j,m⟩:=h;exact⟨f,g,i.turns b (fun a e=>c _ (d a e)),d,fun x n=>(j x n).turns b (fun k e=>c k e.1),m⟩
theorem pK.mono (h:pK w S tU tB ao cap l)(b:∀k,k<w.heap.size->S k->S' k):pK w S' tU tB ao cap l:=by
 obtain⟨d,f,c,g,i,j⟩:=h;exact⟨d,f,c,fun a e=>b _ (c.block a e).2 (g a e),fun x m=>(i x m).mono (fun k n e=>⟨b k n e.1,e.2⟩),j⟩
theorem pK.stay (h:pK w S tU tB ao cap l)(a:Below w.heap.size w w'):pK w' S tU tB ao cap l:=h.turns (Turns.of_below (S:=fun _=>False) a) (fun _ _ e=>e)
theorem Bc {S:Nat->Prop}(b:∀a,ao=M a->S a.block):∀k,fV ao=M k->S k:=fun k e=>by
 cases ao with
 | none=>cases e
 | some a=>injection e with e;subst e;exact b a rfl
theorem pK.push {W:X}(h:pK W S tU tB ao cap l)(m:Obj):∃xs,gH (W.alloc m) 0 tU 5 ao cap l.length xs ∧
 ∀gJ b w' (u:Sp.Up) (s:wU) (N:Nat->Prop),gK W N tB s.bo s.fU u.bytes->(∀k,S k->¬N k)->gH w' 0 tU 5 gJ b (l.length+1) (xs++uK u s)->(W.alloc m).grownBy w' (fV ao)->(fV gJ=fV ao∨fV gJ=M (W.alloc m).heap.size)->pK w' (fun k=>S k∨N k∨W.heap.size<=k) tU tB gJ b (l++[u])∧Turns S W w':=by
 obtain⟨p,z,B,C,q,D⟩:=h;have r:Below W.heap.size W (W.alloc m):=(eY _ _).alloc (aM _) _;have n:=Bc C;refine⟨sO p,B.stay r,fun gJ b w' u s N t v G H d=>?_⟩;have o:=(Turns.of_below r).trans (Turns.iL H (fun k e=>e)) (fun _ e _=>e);have f:∀k,k<W.heap.size->fV ao≠M k->fV gJ≠M k:=fun k c h e=>by
  rcases d with g | g
  . rw[g] at e;exact h e
  . rw[g,fG] at e;injection e with e;omega
 refine⟨⟨p++[(u,s)],by simp[z],by rw[uh,Zc,aV];exact G,fun a e=>?_,fun x i=>?_,D.push fun y L k T kx=>v k ((q y L).blk T).1.1 (t.blk kx).1⟩,o.mono (fun k e=>n k e)⟩
 . subst e;rcases d with g | g
   . exact A (n _ (g.symm.trans rfl))
   . rw[fG] at g;injection g with g;exact R (R (by omega))
 . rcases bq.1 i with i | i
   . exact(q x i).over o (fun k e _ c=>⟨e.2,A e.1,f k c e.2⟩)
   . rw[bA.1 i];have j:∀k,N k->fV ao≠M k:=fun k c e=>v k (n k e) c;exact t.over o (fun k e _ c=>⟨j k e,R (A e),f k c (j k e)⟩)
theorem pK.put {g i j:Nat}{v:Value}{u:Sp.Up}(h:pK w S tU tB (M ⟨g,0,U⟩) cap l)(B:i<l.length)(m:j<5)(C:∀s,(uK l[i] s).set j v=uK u s)(D:u.bytes=l[i].bytes):pK (w.setCell ⟨g,i*5+j,U⟩ v) S tU tB (M ⟨g,0,U⟩) cap (l.set i u)∧Turns (fun k=>k=g) w (w.setCell ⟨g,i*5+j,U⟩ v):=by
 obtain⟨a,rfl,G,H,o,p⟩:=h;have b:i<a.length:=by simpa using B
 have q:Turns (fun k=>k=g) w (w.setCell ⟨g,i*5+j,U⟩ v):=Turns.setCell (fun k=>k=g) w _ _ rfl;have c:u.bytes=a[i].1.bytes:=by rw[D,aG]
 have d:uM (u,a[i].2)=uM a[i]:=by unfold uM;simp only;rw[c]
 refine⟨⟨a.set i (u,a[i].2),by rw[List.map_set],?_,H,fun x f=>?_,p.set i fun j y n m k L r=>?_⟩,q⟩
 . have t:=(fF G (i*5+j) v).1;rw[DF a i b j v (u,a[i].2) m (by have:=C a[i].2;rw[aG] at this;exact this)] at t;rw[aP];exact t
 . have z:∀y:Sp.Up×wU,gK w (fun k=>S k∧fV (M ⟨g,0,U⟩)≠M k) tB y.2.bo y.2.fU y.1.bytes->gK (w.setCell ⟨g,i*5+j,U⟩ v) (fun k=>S k∧fV (M ⟨g,0,U⟩)≠M k) tB y.2.bo y.2.fU y.1.bytes:=fun y n=>n.turns q (fun k e T=>e.2 (by subst T;rfl));rcases List.mem_or_eq_of_mem_set f with f | f
   . exact z x (o x f)
   . subst f;have:=z a[i] (o a[i] (aC b));show gK _ _ _ a[i].2.bo a[i].2.fU u.bytes;rw[c];exact this
 . rw[d] at r;exact p j i y a[i] n (dz b) m k L r
theorem pK.lies (h:pK w S tU tB ao cap l)(i:Nat)(v:i<l.length):∃(g:Nat) (s:wU),ao=M ⟨g,0,U⟩∧S g∧g<w.heap.size∧w.cell? ⟨g,i*5,U⟩=M (I J l[i].id)∧w.cell? ⟨g,i*5+1,U⟩=M (I J l[i].size)∧w.cell? ⟨g,i*5+2,U⟩=M (V l[i].note)∧w.cell? ⟨g,i*5+3,U⟩=M (Z s.bo l[i].bytes.length s.fU)∧w.cell? ⟨g,i*5+4,U⟩=M (I J l[i].sent)∧(∀j,w.frozen? ⟨g,j,U⟩=false)∧gK w (fun k=>S k∧k≠g) tB s.bo s.fU l[i].bytes ∧
 ∀w1 o p bs n,gK w1 (fun k=>jy l[i].bytes s.bo=M k∨w.heap.size<=k) tB o p bs->Turns (fun k=>jy l[i].bytes s.bo=M k) w w1->n=bs.length->pK (w1.setCell ⟨g,i*5+3,U⟩ (Z o n p)) (gB S w) tU tB (M ⟨g,0,U⟩) cap (l.set i { l[i] with bytes:=bs })∧Turns S w (w1.setCell ⟨g,i*5+3,U⟩ (Z o n p)):=by
 have hU:=h.zf.at_ i v;obtain⟨g,hg,q,_,_⟩:=h.at_.row i v;subst hg;obtain⟨c,rfl,r,h3,z,B⟩:=h;have d:i<c.length:=by simpa using v
 have t:∀j,j<5->w.cell? ⟨g,i*5+j,U⟩=(uK c[i].1 c[i].2)[j]?:=fun j f=>by
  rw[fD r (i*5+j) (by omega),um c i d j f]
 have hx:=z _ (aC d);have u:gK w (fun k=>S k∧k≠g) tB c[i].2.bo c[i].2.fU c[i].1.bytes:=hx.to (fun k e _ _=>⟨e.1,fun m=>e.2 (by subst m;rfl)⟩);simp only[aG];refine⟨g,c[i].2,rfl,q,(r.block _ rfl).2,t 0 (by decide),t 1 (by decide),t 2 (by decide),t 3 (by decide),t 4 (by decide),fun j=>fE r j,u,fun w1 o p bs n H C hn=>?_⟩;subst hn;have b:∀k,jy c[i].1.bytes c[i].2.bo=M k->S k∧k≠g:=fun k e=>(u.blk e).1;have hgl:g<w.heap.size:=(r.block _ rfl).2;have jN:Turns S w (w1.setCell ⟨g,i*5+3,U⟩ (Z o bs.length p)):=(C.mono (fun k e=>(b k e).1)).trans (Turns.setCell S w1 _ _ q) (fun _ e _=>e);have L:Turns (fun k=>k=g) w1 (w1.setCell ⟨g,i*5+3,U⟩ (Z o bs.length p)):=Turns.setCell (fun k=>k=g) w1 _ _ rfl;have KF:gH w1 0 tU 5 (M ⟨g,0,U⟩) cap (c.map (·.1)).length (sO c):=r.turns C (fun a e h=>by injection e with e;subst e;exact(b _ h).2 rfl);refine⟨⟨c.set i ({ c[i].1 with bytes:=bs },⟨o,p⟩),by rw[List.map_set],?_,fun a e=>A (h3 a e),fun x D=>?_,B.set i fun j y T f k W kx=>?_⟩,jN⟩
 . have KE:=(fF KF (i*5+3) (Z o bs.length p)).1;rw[DF c i d 3 _ ({ c[i].1 with bytes:=bs },⟨o,p⟩) (by decide) rfl] at KE;rw[aP];exact KE
 . obtain⟨j,f⟩:=List.getElem?_of_mem D;rw[List.getElem?_set] at f;split at f
   . rename_i e;first | rw[if_pos d] at f | skip
     injection f with f;subst f;refine(H.to (S':=fun k=>gB S w k∧k≠g) (fun k h _ _=>?_)).over L (fun k e _ _=>⟨e.2,e.1,fun m=>e.2 (by injection m with m;exact m.symm)⟩);rcases h with h | h
     . exact⟨A (b k h).1,(b k h).2⟩
     . exact⟨R h,by omega⟩
   . rename_i e;have hm:=dH f;have G:gK w1 (fun k=>S k∧k≠g) tB x.2.bo x.2.fU x.1.bytes:=(z x hm).over C (fun k e1 m _=>⟨fun e3=>B j i x c[i] f (dz d) (fun e4=>e e4.symm) k m e3,e1.1,fun e5=>e1.2 (by subst e5;rfl)⟩);exact G.over L (fun k e _ _=>⟨e.2,A e.1,fun m=>e.2 (by injection m with m;exact m.symm)⟩)
 . rcases(H.blk kx).1 with e | e
   . exact B j i y c[i] T (dz d) f k W e
   . have:=((z y (dH T)).blk W).2;omega
theorem RS (a:List (Sp.Up×wU))(i:Nat):sO (a.eraseIdx i)=sO (a.take i)++sO (a.drop (i+1)):=by rw[List.eraseIdx_eq_take_drop_succ,uh]
theorem pK.drop (h:pK w S tU tB ao cap l)(i:Nat)(m:i<l.length):∃c:List (Sp.Up×wU),c.length=l.length∧gH w 0 tU 5 ao cap l.length (sO c) ∧
 ∀w' gJ b,gH w' 0 tU 5 gJ b (l.length-1) (sO (c.eraseIdx i))->Turns (fun k=>fV ao=M k) w w'->(∀k,fV gJ=M k->fV ao=M k∨w.heap.size<=k)->pK w' (gB S w) tU tB gJ b (l.eraseIdx i)∧Turns S w w':=by
 obtain⟨c,rfl,n,o,p,q⟩:=h;have f:=Bc o;refine⟨c,by simp,n,fun w' gJ b r j d=>⟨⟨c.eraseIdx i,by simp[List.eraseIdx_eq_take_drop_succ,List.map_take,List.map_drop],?_,fun a e=>?_,fun x s=>?_,q.erase i⟩,j.mono f⟩⟩
 . rw[List.length_eraseIdx_of_lt m];exact r
 . subst e;rcases d _ rfl with g | g
   . exact A (f _ g)
   . exact R g
 . refine(p x (List.mem_of_mem_eraseIdx s)).over j (fun k e _ u=>⟨e.2,A e.1,fun t=>?_⟩);rcases d k t with g | g
   . exact e.2 g
   . omega
end
def Bd:List Value->Nat->List Value->List Value
 | xs,_,[]=>xs
 | xs,o,v::vs=>Bd (xs.set o v) (o+1) vs
theorem KG:∀(a xs:List Value) (o j:Nat),(Bd xs o a)[j]? = if o<=j∧j<o+a.length∧j<xs.length then a[j-o]? else xs[j]?:=by intro l;induction l <;> grind [Bd]
theorem Iy:∀(a xs:List Value) (o:Nat),(Bd xs o a).length=xs.length:=by intro l;induction l <;> grind [Bd]
section
variable {w w':X} {S S':Nat->Prop} {t k g cap n:Nat} {xs:List Value}
theorem gH.lays:∀(a:List Value) (o:Nat) {xs:List Value} {w:X},gH w 0 t k (M ⟨g,0,U⟩) cap n xs->gH (w.setCells g o a) 0 t k (M ⟨g,0,U⟩) cap n (Bd xs o a)
 | [],_,_,_,h=>h
 | v::a,o,xs,w,h=>by rw[World.setCells,Bd];exact gH.lays a (o+1) (fF h o v).1
theorem lY (g:Nat):∀(a:List Value) (o:Nat) (w:X),Turns (fun k=>k=g) w (w.setCells g o a)
 | [],_,w=>Turns.refl _ w
 | v::a,o,w=>by rw[World.setCells];exact(Turns.setCell (fun k=>k=g) w _ _ rfl).trans (lY g a (o+1) _) (fun _ e _=>e)
theorem gH.less (h:gH w 0 t k (M ⟨g,0,U⟩) cap n xs)(m:Nat)(f:m<=n):gH w 0 t k (M ⟨g,0,U⟩) cap m (xs.take (m*k)):=by
 have r:=h.1;have b:=Nat.mul_le_mul_right k f;refine⟨by rw[bW];omega,?_⟩;rcases h.2 with ⟨e,_⟩ | ⟨s,d,c,e,i,j,u,l,o,p⟩
 . simp at e
 . injection e with a v q;injection a with a;injection a with a;subst a;subst q;exact R ⟨g,cap,c,rfl,i,j,by omega,l,o,by rw[<-p,List.take_take,dP b]⟩
theorem gH.gone (h:gH w 0 t k (M ⟨g,0,U⟩) cap n xs)(i:Nat)(m:i<n)(b:List Value):gH ((w.setCells g (i*k) (xs.drop ((i+1)*k))).setCells g ((n-1)*k) b) 0 t k (M ⟨g,0,U⟩) cap (n-1) (xs.take (i*k)++xs.drop ((i+1)*k)):=by
 have o:=h.1;have d:=((h.lays (xs.drop ((i+1)*k)) (i*k)).lays b ((n-1)*k)).less (n-1) (by omega);have e:(i+1)*k=i*k+k:=Nat.succ_mul i k;have f:n*k=(n-1)*k+k:=by rw[<-Nat.succ_mul,show(n-1).succ=n by omega]
 have l:i*k<=(n-1)*k:=Nat.mul_le_mul_right k (by omega);refine(bC (gH _ 0 t k (M ⟨g,0,U⟩) cap (n-1)) ?_).mp d;refine List.ext_getElem? fun j=>?_;rw[List.getElem?_take,List.getElem?_append,bW,List.getElem?_take,List.getElem?_drop];by_cases c:j<(n-1)*k
 . rw[if_pos c,KG,if_neg (by omega),KG,bT];by_cases a:j<i*k
   . rw[if_neg (by omega),if_pos (by omega),if_pos a]
   . rw[if_pos (by omega),if_neg (by omega),List.getElem?_drop,dP (by omega)]
 . rw[if_neg c,if_neg (by omega),dU (by omega)]
end
theorem E5 {P:Program}(w:X)(t e k:TypeId)(z:Value)(l:P.underlying t=M (.slice e))(m:∀w,(zeroValue e).run P w=.ok z w)(f:∀v∈z.cells.toList,v.oneCell'=true)(b o c:Nat)
 (n:∀j,j<z.cells.size->(w.cell? ⟨b,o+j,U⟩).isSome=true) (p:∀j,j<z.cells.size->w.frozen? ⟨b,o+j,U⟩=false) :
 (Builtin.clear_ #[t] k #[Z (M ⟨b,o,U⟩) 1 c]).run P w=.ok (.tuple #[]) (w.setCells b o z.cells.toList):=by
 have d:Builtin.zeroCells z.cells 1=z.cells:=by
  apply Array.ext
  . simp[Builtin.zeroCells]
  . intro i f g;simp[Builtin.zeroCells,Nat.mod_eq_of_lt g];exact getElem!_pos z.cells i g
 have a:=run_storeCells_cells (P:=P) b o z.cells.toList 0 w (by simpa using n) (by simpa using p) f;simp only[bI] at a;simp[Builtin.clear_,run_underlying l,m,d,a]
def ny (w:X)(S:Nat->Prop)(tO tU tB g:Nat)(s:Sp.St):Prop:=∃ao cap,w.heap[g]? = M (K #[Z ao s.l.length cap,I J s.last] tO (0,0))∧S g∧pK w (fun k=>S k∧k≠g) tU tB ao cap s.l
section
variable {w w' w1:X} {S S' N:Nat->Prop} {tO tU tB g:Nat} {s:Sp.St}
theorem ny.turns (h:ny w S tO tU tB g s)(b:Turns S' w w')(c:∀k,S k->¬S' k):ny w' S tO tU tB g s:=by
 obtain⟨f,a,i,d,j⟩:=h;exact⟨f,a,b.row i (c g d),d,j.turns b (fun k e=>c k e.1)⟩
theorem ny.lt (h:ny w S tO tU tB g s):g<w.heap.size:=by grind [ny]
theorem ny.mono (h:ny w S tO tU tB g s)(b:∀k,k<w.heap.size->S k->S' k):ny w S' tO tU tB g s:=by
 have c:=h.lt;obtain⟨d,a,f,i,j⟩:=h;exact⟨d,a,f,b g c i,j.mono (fun k l e=>⟨b k l e.1,e.2⟩)⟩
theorem ny.stay (h:ny w S tO tU tB g s)(a:Below w.heap.size w w'):ny w' S tO tU tB g s:=h.turns (Turns.of_below (S:=fun _=>False) a) (fun _ _ e=>e)
theorem ny.lay {v:Value}{last:Int}{a:List Sp.Up}{ao:ak}{cap n:Nat}(c:w1.heap[g]? = M (K #[v,I J last] tO (0,0)))(d:S g)(f:pK w1 (fun k=>S k∧k≠g) tU tB ao cap a)(i:n=a.length):ny (w1.setCell ⟨g,0,U⟩ (Z ao n cap)) S tO tU tB g ⟨a,last⟩∧Turns (fun k=>k=g) w1 (w1.setCell ⟨g,0,U⟩ (Z ao n cap)):=by
 subst i;have b:Turns (fun k=>k=g) w1 (w1.setCell ⟨g,0,U⟩ (Z ao a.length cap)):=Turns.setCell (fun k=>k=g) w1 _ _ rfl;exact⟨⟨ao,cap,fu w1 g 0 _ tO _ c,d,f.turns b (fun k e j=>e.2 j)⟩,b⟩
theorem ny.cells (h:ny w S tO tU tB g s):∃ao cap,w.cell? ⟨g,0,U⟩=M (Z ao s.l.length cap)∧w.cell? ⟨g,1,U⟩=M (I J s.last)∧w.frozen? ⟨g,0,U⟩=false∧w.frozen? ⟨g,1,U⟩=false∧w.heap[g]? = M (K #[Z ao s.l.length cap,I J s.last] tO (0,0))∧S g∧pK w (fun k=>S k∧k≠g) tU tB ao cap s.l:=by
 obtain⟨ao,cap,a,b,c⟩:=h;exact⟨ao,cap,eZ w g 0 _ _ _ a,eZ w g 1 _ _ _ a,fq w g 0 _ _ a,fq w g 1 _ _ a,a,b,c⟩
end
theorem IG (x y:ay):∀u∈([V x,V y]:List Value),u.oneCell'=true:=fun u a=>by simp at a;rcases a with rfl | rfl <;> rfl
theorem prNew (W:X)(x y:ay)(t:Nat){k:Nat}(a:W.heap.size=k):∀j u,([V x,V y]:List Value)[j]? = M u->(W.alloc (K #[V x,V y] t)).cell? (Addr.add ⟨k,0,U⟩ j)=M u:=fun j u b=>by
 rw[fQ,aZ,World.cell?_alloc_at _ _ _ _ a.symm,dD];exact b
theorem adA {a w5:X}{x y:ay}{t:Nat}(h:Below (a.alloc (K #[V x,V y] t)).drew.heap.size (a.alloc (K #[V x,V y] t)).drew w5):∀j u,([V x,V y]:List Value)[j]? = M u->w5.cell? (Addr.add ⟨a.heap.size,0,U⟩ j)=M u:=fun j u c=>by
 have d:=prNew a x y t rfl j u c;have b:=d;exact(h.cell (fH _ _ b)).trans b
theorem Qo {c W d:X}{b t:Nat}{ao:ak}{cap n:Nat}{xs:List Value}{w5:X}(f:Below c.heap.size c W)(g:gH w5 b t 2 ao cap n xs)(i:W.grownBy d (Value.slice ao n cap).ownBlock)(j:c.heap.size<=b):Below c.heap.size c d :=
 f.grown i f.size (fun q e=>by
  rw[gD] at e;cases ao with
  | none=>cases e
  | some a=>injection e with e;subst e;have:=(g.block a rfl).1;omega)
def QB:Sp.Up:=⟨0,0,⟨#[]⟩,[],0⟩
theorem Tc (n:Nat):(madeCells #[I J 0,I J 0,V ⟨#[]⟩,Z U 0 0,I J 0] (n*5)).toList=sO (List.replicate n (QB,⟨U,0⟩)):=by
 refine List.ext_getElem? fun j=>?_;by_cases c:j<n*5
 . have d:j=(j / 5)*5+j % 5:=by omega
   have e:j / 5<n:=by omega
   have a:j % 5<5:=Nat.mod_lt _ (by decide);have b:=um (List.replicate n (QB,⟨U,0⟩)) (j / 5) (by simpa using e) (j % 5) a;rw[<-d] at b;rw[b,Array.getElem?_toList];have f:(#[Value.int J 0,I J 0,V ⟨#[]⟩,Z U 0 0,I J 0]:Array Value).size=5:=rfl;simp only[madeCells,Array.getElem?_map,List.getElem_replicate];rw[Array.getElem?_range,if_pos c,f,Option.map_some];generalize j % 5=r at a ⊢;match r,a with
   | 0,_=>rfl
   | 1,_=>rfl
   | 2,_=>rfl
   | 3,_=>rfl
   | 4,_=>rfl
 . rw[dU (by simp[madeCells];omega),dU (by rw[qJ,List.length_replicate];omega)]
theorem Lg:∀(b:List (Sp.Up×wU)) (i:Nat) (_:i<b.length) (x:Sp.Up×wU),(((((sO b).set (i*5) (I J x.1.id)).set (i*5+1) (I J x.1.size)).set (i*5+2) (V x.1.note)).set (i*5+3) (Z x.2.bo x.1.bytes.length x.2.fU)).set (i*5+4) (I J x.1.sent)=sO (b.set i x)
 | p::t,0,_,x=>rfl
 | p :: t, i + 1, hi, x => by
   have c:=Lg t i (by simpa using hi) x;have e:∀(a:List Value) (k:Nat) (v:Value),(uK p.1 p.2++a).set ((i+1)*5+k) v=uK p.1 p.2++a.set (i*5+k) v:=fun a k v=>by
    rw[bG _ _ (by rw[show(uK p.1 p.2).length=5 from rfl];omega),show(uK p.1 p.2).length=5 from rfl,show(i+1)*5+k-5=i*5+k by omega]
   have d:∀(a:List Value) (v:Value),(uK p.1 p.2++a).set ((i+1)*5) v=uK p.1 p.2++a.set (i*5) v:=fun a v=>e a 0 v;show(((((uK p.1 p.2++sO t).set ((i+1)*5) _).set _ _).set _ _).set _ _).set _ _=uK p.1 p.2++sO (t.set i x);rw[d,e,e,e,e,c]
section
variable {w w':X} {S N:Nat->Prop} {tU tB g cap n:Nat} {l:List Sp.Up}
theorem pK.zeros (h:gH w 0 tU 5 (M ⟨g,0,U⟩) cap n (sO (List.replicate n (QB,⟨U,0⟩))))(d:S g):pK w S tU tB (M ⟨g,0,U⟩) cap (List.replicate n QB):=by
 refine⟨List.replicate n (QB,⟨U,0⟩),by simp,by rw[List.length_replicate];exact h,fun a e=>by injection e with e;subst e;exact d,fun x b=>?_,fun i j x y b f _ k c=>?_⟩
 . rw[List.eq_of_mem_replicate b];exact gK.nil _ _ _
 . rw[List.eq_of_mem_replicate (dH b)] at c;simp[uM,jy,QB] at c
theorem pK.agu {i:Nat}{u:Sp.Up}{bo:ak}{fU f:Nat}(h:pK w S tU tB (M ⟨g,0,U⟩) cap l)(C:i<l.length)(s:gK w N tB bo fU u.bytes)(m:∀k,N k->¬S k)(o:f=u.bytes.length):
 pK (((((w.setCell ⟨g,i*5,U⟩ (I J u.id)).setCell ⟨g,i*5+1,U⟩ (I J u.size)).setCell ⟨g,i*5+2,U⟩ (V u.note)).setCell ⟨g,i*5+3,U⟩ (Z bo f fU)).setCell ⟨g,i*5+4,U⟩ (I J u.sent)) (fun k=>S k∨N k) tU tB (M ⟨g,0,U⟩) cap (l.set i u) ∧
 Turns (fun k=>k=g) w (((((w.setCell ⟨g,i*5,U⟩ (I J u.id)).setCell ⟨g,i*5+1,U⟩ (I J u.size)).setCell ⟨g,i*5+2,U⟩ (V u.note)).setCell ⟨g,i*5+3,U⟩ (Z bo f fU)).setCell ⟨g,i*5+4,U⟩ (I J u.sent)):=by
 subst o;obtain⟨p,rfl,D,t,v,G⟩:=h;have q:i<p.length:=by simpa using C
 have r:=lY g [I J u.id,I J u.size,V u.note,Z bo u.bytes.length fU,I J u.sent] (i*5) w;have z:=(fF (fF (fF (fF (fF D (i*5) (I J u.id)).1 (i*5+1) (I J u.size)).1 (i*5+2) (V u.note)).1 (i*5+3) (Z bo u.bytes.length fU)).1 (i*5+4) (I J u.sent)).1;have B:=Lg p i q (u,⟨bo,fU⟩);simp only at B;rw[B] at z;refine⟨⟨p.set i (u,⟨bo,fU⟩),by rw[List.map_set],by rw[aP];exact z,fun a e=>A (t a e),fun x c=>?_,G.set i fun j y H _ k L T=>?_⟩,r⟩
 . have d:=t _ rfl;rcases List.mem_or_eq_of_mem_set c with c | c
   . exact(v x c).over r (fun k e _ _=>⟨fun b=>e.2 (by subst b;rfl),A e.1,e.2⟩)
   . subst c;exact s.over r (fun k e _ _=>⟨fun b=>m k e (by subst b;exact d),R e,fun b=>m k e (by injection b with b;subst b;exact d)⟩)
 . exact m k (s.blk T).1 ((v y (dH H)).blk L).1.1
end
theorem Te (l:List Sp.Up)(k:Nat)(b:k<l.length):(l.take k++List.replicate (l.length-k) QB).set k l[k]=l.take (k+1)++List.replicate (l.length-(k+1)) QB:=by
 have e:l.length-k=(l.length-(k+1))+1:=by omega
 have a:(l.take k).length=k:=by rw[bW];omega
 rw[e,List.replicate_succ,bG _ _ (by omega),a,Nat.sub_self,dS,bM b,dO];rfl
end Go.Proofs.YthhklgjjnaeaoaaGreatDoor