import Derived.Test.YtodmelffkfbalaaGreatDoorPk14
import Derived.Test.YtodmelffkfbalaaGreatDoorRqFld
open Go.Value renaming int->I,string->V,slice->Z,pointer->Q
open Go.IntKind renaming i64->J
open Go.Obj renaming cells->K
open Go.Ending renaming returned->Y
open Option renaming none->U,some->M
open Bool renaming false->F
open Or renaming inl->A,inr->R
open Go renaming World->X
set_option maxHeartbeats 2000000
set_option maxRecDepth 100000
open Go.Proofs.Tryz
namespace Go.Proofs.YtodmelffkfbalaaGreatDoor
open Go.RowKit
theorem Et (c:UInt8)(s:ae):∃a b f,jY c s=.tuple #[V a,V b,.bool f]∧b.size<=s.size:=by
 unfold jY;split
 . exact⟨_,_,_,rfl,by show 0<=s.size;omega⟩
 . exact⟨_,_,_,rfl,by rw[ByteArray.size_extract];omega⟩
theorem FI {c:UInt8}{s:ae}(h:aV c s.data.toList<s.data.toList.length):∃a b,jY c s=.tuple #[V a,V b,.bool true]∧a.data.toList=s.data.toList.take (aV c s.data.toList)∧b.data.toList=s.data.toList.drop (aV c s.data.toList+1):=by
 have d:s.data.toList.length=s.size:=by rw[cI];rfl
 unfold jY;rw[if_neg (by omega)];refine⟨_,_,rfl,?_,?_⟩
 . rw[Lib.extract_data];simp
 . rw[Lib.extract_data,<-d,hZ];rw[cQ];omega
theorem Rn {l:ab}(c:∀b∈l,b≠32)(g:∀b∈l,ex b.toNat=true):iV l=decide (¬(l.head?≠M 47∨9∈l)):=by
 have d:dP l=true:=sI.2 fun b a=>g b a;have f:na l=decide (9∈l):=by
  unfold na;rw[ix,List.any_eq_true,bN];constructor
  . rintro ⟨b,a,e⟩;simp at e;rcases e with e | e
    . exact absurd e (c b a)
    . exact e▸a
  . intro h;exact⟨9,h,rfl⟩
 unfold iV;rw[d,f,ix];simp
inductive AT (w:X)(g:Nat)(lp bd:Value)(t:ab)(e:Ending)(w':X):Prop
 | bad (c:Nat) (he:e=Y (I J (c:Int))) (hf:kR t=.inl c) (hB:Below w.heap.size w w')
 | ok (h:df) (gh:Nat) (he:e=Y (I J 0)) (hf:kR t=.inr h) (hP:cl w' g lp (Q (M ⟨gh,0,U⟩)) F bd 0) (hH:fU w' (fun k=>w.heap.size<=k) gh h) (hT:ak (fun k=>k=g) w w')
theorem Ox (w:X)(g:Nat)(k bd:Value)(t:ae)(q:t.size<=2000)(l:t.data.toList.count 32≠2):
 Calls prog 222 #[Q (M ⟨g,0,U⟩),V t] w fun e w'=>AT w g k bd t.data.toList e w':=by
 obtain⟨a,b,f,m,r⟩:=Et 32 t;obtain⟨s,u,v,n,_⟩:=Et 32 b;have d:=rB t 32 w (by unfold maxLen;omega);have i:=fun W=>rB b 32 W (by unfold maxLen;omega);have j:=fun W=>Hp t 32 W;rw[m] at d;simp only[n] at i;have o:=Gf l;have c:(((t.data.toList.count 32:Nat):Int) != 2)=true:=by rw[dh];omega
 generalize t.data.toList.count 32=x at j c;go_enter func222,ntmps222;go_wp2_with fail;refine d.mono ?_;rintro e y ⟨rfl,z,rfl⟩;go_wp2_with fail;refine(i _).mono ?_;rintro e B ⟨rfl,C,rfl⟩;go_wp2_with fail;refine(j _).mono ?_;rintro e D ⟨rfl,p⟩;subst p;go_wp2;go_ret;exact .bad 5 rfl o (iP ⟨_,rfl⟩)
theorem yH {w b:X}{g:Nat}{d bd:Value}{m gt:ae}(j:cl b g d (Q U) F bd 0)(f:Below w.heap.size w b)(l:g<w.heap.size):
 cl ((b.alloc (K #[V m,V gt,I J 0,Z U 0 0,I J 0] 82)).setCell ⟨g,1,U⟩ (Q (M ⟨b.heap.size,0,U⟩))) g d (Q (M ⟨b.heap.size,0,U⟩)) F bd 0 ∧
 fU ((b.alloc (K #[V m,V gt,I J 0,Z U 0 0,I J 0] 82)).setCell ⟨g,1,U⟩ (Q (M ⟨b.heap.size,0,U⟩))) (fun k=>w.heap.size<=k) b.heap.size ⟨m.data.toList,gt.data.toList,0,[],0⟩ ∧
 ak (fun k=>k=g) w ((b.alloc (K #[V m,V gt,I J 0,Z U 0 0,I J 0] 82)).setCell ⟨g,1,U⟩ (Q (M ⟨b.heap.size,0,U⟩))):=by
 have c:=f.size;have i:Below b.heap.size b (b.alloc (K #[V m,V gt,I J 0,Z U 0 0,I J 0] 82)):=(ar _ _).alloc (am _) _;refine⟨(j.a i).G _,?_,?_⟩
 . refine⟨U,0,?_,aL.q _ _ _ _,c,fun a e=>by cases e⟩;rw[pU _ _ _ _ (show b.heap.size≠g by omega),be];rfl
 . exact(ak.e (S:=fun k=>k=g) (f.trans (i.mono c))).a (ak.j (fun k=>k=g) _ _ _ rfl) (fun _ e _=>e)
theorem Rp {w b:X}{g:Nat}{f bd:Value}{m gt:ae}(l:cl b g f (Q U) F bd 0)(j:Below w.heap.size w b)(n:g<w.heap.size):
 cl (((b.alloc (K #[V m,V gt,I J 0,Z U 0 0,I J 0] 82)).setCell ⟨g,1,U⟩ (Q (M ⟨b.heap.size,0,U⟩))).setCell ⟨b.heap.size,2,U⟩ (I J 1)) g f (Q (M ⟨b.heap.size,0,U⟩)) F bd 0 ∧
 fU (((b.alloc (K #[V m,V gt,I J 0,Z U 0 0,I J 0] 82)).setCell ⟨g,1,U⟩ (Q (M ⟨b.heap.size,0,U⟩))).setCell ⟨b.heap.size,2,U⟩ (I J 1)) (fun k=>w.heap.size<=k) b.heap.size ⟨m.data.toList,gt.data.toList,1,[],0⟩ ∧
 ak (fun k=>k=g) w (((b.alloc (K #[V m,V gt,I J 0,Z U 0 0,I J 0] 82)).setCell ⟨g,1,U⟩ (Q (M ⟨b.heap.size,0,U⟩))).setCell ⟨b.heap.size,2,U⟩ (I J 1)):=by
 obtain⟨o,p,q⟩:=yH (m:=m) (gt:=gt) l j n;have c:=j.size;obtain⟨r,s,t,_⟩:=p;refine⟨o.e (ak.j (fun k=>k=b.heap.size) _ _ _ rfl) (by omega),?_,?_⟩
 . refine⟨U,0,?_,aL.q _ _ _ _,c,fun a e=>by cases e⟩;have d:((b.alloc (K #[V m,V gt,I J 0,Z U 0 0,I J 0] 82)).setCell ⟨g,1,U⟩ (Q (M ⟨b.heap.size,0,U⟩))).heap[b.heap.size]? = M (K #[V m,V gt,I J 0,Z U 0 0,I J 0] 82 (0,0)):=by
    rw[pU _ _ _ _ (show b.heap.size≠g by omega),be]
   rw[aR _ _ 2 _ _ _ d];rfl
 . refine q.a (ak.j (fun k=>w.heap.size<=k) _ _ _ c) (fun i e u=>by omega)
theorem Rr (w:X)(g:Nat)(lp bd:Value)(t:ae)(hP:cl w g lp (Q U) F bd 0)(ht:t.size<=2000)(hv:∀b∈t.data.toList,ex b.toNat=true)(hc:t.data.toList.count 32=2):
 Calls prog 222 #[Q (M ⟨g,0,U⟩),V t] w fun e w'=>AT w g lp bd t.data.toList e w':=by
 have hl:t.data.toList.length=t.size:=by rw[cI];rfl
 obtain⟨c1,c2,_⟩:=F6 hc;have d:=FZ hc;obtain⟨m,r,e1,hm,hr⟩:=FI c1;rw[<-hr] at c2 d;obtain⟨gt,v,e2,hg,hv2⟩:=FI c2;rw[<-hm,<-hg,<-hv2] at d;have hrl:r.size<=2000:=by
  have:r.data.toList.length=r.size:=by rw[cI];rfl
  rw[hr,cQ] at this;omega
 have hgl:gt.size<=2000:=by
  have h1:gt.data.toList.length=gt.size:=by rw[cI];rfl
  have h2:r.data.toList.length=r.size:=by rw[cI];rfl
  rw[hg,bV] at h1;omega
 have hml:m.size<=2000:=by
  have h1:m.data.toList.length=m.size:=by rw[cI];rfl
  rw[hm,bV] at h1;omega
 have l:∀b∈gt.data.toList,b≠32∧ex b.toNat=true:=fun b n=>by
  have h32:b≠32:=by rw[hg] at n;exact xu b n
  rw[hg] at n;have D:=List.mem_of_mem_take n;rw[hr] at D;exact⟨h32,hv b (List.mem_of_mem_drop D)⟩
 have hT:=Rn (fun b n=>(l b n).1) (fun b n=>(l b n).2);have y:=rB t 32 w (by unfold maxLen;omega);have z:=fun W=>rB r 32 W (by unfold maxLen;omega);have B:=fun W=>Hp t 32 W;rw[e1] at y;simp only[e2] at z;simp only[hc] at B;have o:=fun W=>yh m W (by unfold maxLen;omega);have p:=fun W=>BX gt W (by omega);have G:=fun W=>oZ m W (by omega);have H:=fun W=>oZ gt W (by omega);have Yg:=hP.r;have L:(v.toList==[72,84,84,80,47,49,46,49])=decide (v.data.toList=[72,84,84,80,47,49,46,49]):=by rw[Lib.toList_data,ix];simp
 have N:(v.toList==[72,84,84,80,47,49,46,48])=decide (v.data.toList=[72,84,84,80,47,49,46,48]):=by rw[Lib.toList_data,ix];simp
 have S:(([72,84,84,80,47,49,46,49]:ab)==v.toList)=decide (v.data.toList=[72,84,84,80,47,49,46,49]):=by rw[Lib.toList_data,ix,cJ,bN];exact eq_comm
 have T:(([72,84,84,80,47,49,46,48]:ab)==v.toList)=decide (v.data.toList=[72,84,84,80,47,49,46,48]):=by rw[Lib.toList_data,ix,cJ,bN];exact eq_comm
 unfold A0 at d;simp only[hT] at p;cases i:fi m.data.toList
 . rw[i,if_pos rfl] at d;rw[i] at o;go_enter func222,ntmps222;go_wp2_with fail;refine y.mono ?_;rintro e w1 ⟨rfl,n1,rfl⟩;go_wp2_with fail;refine(z _).mono ?_;rintro e w2 ⟨rfl,n2,rfl⟩;go_wp2_with fail;refine(B _).mono ?_;rintro e w3 ⟨rfl,a⟩;subst a;go_wp2_with fail;refine(o _).mono ?_;rintro e w4 ⟨rfl,a⟩;subst a;go_wp2;go_ret;exact .bad 6 rfl d (iP ⟨_,rfl⟩)
 . rw[i,if_neg (by simp)] at d;rw[i] at o;by_cases j:gt.data.toList.head?≠M 47∨9∈gt.data.toList
   . rw[if_pos j] at d;rw[aX (fun e=>e j)] at p;go_enter func222,ntmps222;go_wp2_with fail;refine y.mono ?_;rintro e w1 ⟨rfl,n1,rfl⟩;go_wp2_with fail;refine(z _).mono ?_;rintro e w2 ⟨rfl,n2,rfl⟩;go_wp2_with fail;refine(B _).mono ?_;rintro e w3 ⟨rfl,a⟩;subst a;go_wp2_with fail;refine(o _).mono ?_;rintro e w4 ⟨rfl,a⟩;subst a;go_wp2_with fail;refine(p _).mono ?_;rintro e w5 ⟨rfl,f⟩;have q:=(iP ⟨_,rfl⟩).trans (f.mono (am _));go_wp2;go_ret;exact .bad 5 rfl d q
   . rw[if_neg j] at d;rw[bq j] at p;by_cases h11:v.data.toList=[72,84,84,80,47,49,46,49]
     . rw[if_pos h11] at d;rw[bq h11] at L S;go_enter func222,ntmps222;go_wp2_with fail;refine y.mono ?_;rintro e w1 ⟨rfl,n1,rfl⟩;go_wp2_with fail;refine(z _).mono ?_;rintro e w2 ⟨rfl,n2,rfl⟩;go_wp2_with fail;refine(B _).mono ?_;rintro e w3 ⟨rfl,a⟩;subst a;go_wp2_with fail;refine(o _).mono ?_;rintro e w4 ⟨rfl,a⟩;subst a;go_wp2_with fail;refine(p _).mono ?_;rintro e w5 ⟨rfl,f⟩;have q:=(iP ⟨_,rfl⟩).trans (f.mono (am _));go_wp2_with fail;refine(G _).mono ?_;rintro e w6 ⟨rfl,s⟩;have wL:=au q s;go_wp2_with fail;refine(H _).mono ?_;rintro e u ⟨rfl,x⟩;have C:=au wL x;have c:=hP.a C;have f1:=(c.a ((ar _ u).alloc (am _) (K #[V m,V gt,I J 0,Z U 0 0,I J 0] 82))).f 1;have k1:=(c.a ((ar _ u).alloc (am _) (K #[V m,V gt,I J 0,Z U 0 0,I J 0] 82))).j;have k2:=(yH (m:=m) (gt:=gt) c C Yg).1.j;go_wp2;go_ret;obtain⟨o1,o2,o3⟩:=Rp (m:=m) (gt:=gt) c C Yg;exact .ok _ u.heap.size rfl d o1 o2 o3
     . rw[if_neg h11] at d;rw[aX h11] at L S;by_cases k:v.data.toList=[72,84,84,80,47,49,46,48]
       . rw[if_pos k] at d;rw[bq k] at N T;go_enter func222,ntmps222;go_wp2_with fail;refine y.mono ?_;rintro e w1 ⟨rfl,n1,rfl⟩;go_wp2_with fail;refine(z _).mono ?_;rintro e w2 ⟨rfl,n2,rfl⟩;go_wp2_with fail;refine(B _).mono ?_;rintro e w3 ⟨rfl,a⟩;subst a;go_wp2_with fail;refine(o _).mono ?_;rintro e w4 ⟨rfl,a⟩;subst a;go_wp2_with fail;refine(p _).mono ?_;rintro e w5 ⟨rfl,f⟩;have q:=(iP ⟨_,rfl⟩).trans (f.mono (am _));go_wp2_with fail;refine(G _).mono ?_;rintro e w6 ⟨rfl,s⟩;have wL:=au q s;go_wp2_with fail;refine(H _).mono ?_;rintro e u ⟨rfl,x⟩;have C:=au wL x;have c:=hP.a C;have f1:=(c.a ((ar _ u).alloc (am _) (K #[V m,V gt,I J 0,Z U 0 0,I J 0] 82))).f 1;have k1:=(c.a ((ar _ u).alloc (am _) (K #[V m,V gt,I J 0,Z U 0 0,I J 0] 82))).j;go_wp2;go_ret;obtain⟨o1,o2,o3⟩:=yH (m:=m) (gt:=gt) c C Yg;exact .ok _ u.heap.size rfl d o1 o2 o3
       . rw[if_neg k] at d;rw[aX k] at N T;go_enter func222,ntmps222;go_wp2_with fail;refine y.mono ?_;rintro e w1 ⟨rfl,n1,rfl⟩;go_wp2_with fail;refine(z _).mono ?_;rintro e w2 ⟨rfl,n2,rfl⟩;go_wp2_with fail;refine(B _).mono ?_;rintro e w3 ⟨rfl,a⟩;subst a;go_wp2_with fail;refine(o _).mono ?_;rintro e w4 ⟨rfl,a⟩;subst a;go_wp2_with fail;refine(p _).mono ?_;rintro e w5 ⟨rfl,f⟩;have q:=(iP ⟨_,rfl⟩).trans (f.mono (am _));go_wp2;go_ret;exact .bad 11 rfl d q
theorem Rs (w:X)(g:Nat)(a bd:Value)(t:ae)(f:cl w g a (Q U) F bd 0)(c:t.size<=2000)(i:∀b∈t.data.toList,ex b.toNat=true):
 Calls prog 222 #[Q (M ⟨g,0,U⟩),V t] w fun e w'=>AT w g a bd t.data.toList e w':=by
 by_cases d:t.data.toList.count 32=2
 . exact Rr w g a bd t f c i d
 . exact Ox w g a bd t c d
theorem OP (f:ab):∀(l:List (ab)) (n:Int) (c:Nat),lB f n l=.inl c->c≠0:=by intro l;induction l <;> grind [lB]
theorem OR {mi:Nat}{a C:List (ab)}{c:Nat}(e:oS mi a C=.inl c):c≠0:=by
 unfold oS pI at e;split at e
 . split at e
   . injection e with e;omega
   . split at e
     . injection e with e;omega
     . cases e
 . split at e
   . rename_i b;injection e with e;subst e;exact OP _ _ _ _ b
   . split at e
     . injection e with e;omega
     . cases e
theorem OV (h:df):mr h=if 1<(aH gv (cf h.a)).length∨(aH gv (cf h.a)).length=0∧h.d=1 then .inl 13 else oS h.d (bU (aH gw (cf h.a))) (bU (aH gx (cf h.a))):=by
 rw[O4,OW];have e:∀(b:ae),aY b.data.toList=b.data.toList->ef h.a b.data.toList=bU (aH b (cf h.a)):=fun b f=>by
  have:=AX (cf h.a) b f;rw[Gi] at this;exact this
 have g:=e gv (by decide);have i:=e gw (by decide);have j:=e gx (by decide);have a:ef h.a qE=bU (aH gv (cf h.a)):=g;have c:ef h.a pG=bU (aH gw (cf h.a)):=i;have d:ef h.a pH=bU (aH gx (cf h.a)):=j;rw[a,c,d];have k:(bU (aH gv (cf h.a))).length=(aH gv (cf h.a)).length:=by simp[bU]
 rw[k]
inductive TA (w:X)(S:Nat->Prop)(g gh:Nat)(lp bd:Value)(h:df)(e:Ending)(w':X):Prop
 | bad (c:Nat) (hc:c≠0) (he:e=Y (I J (c:Int))) (hf:mr h=.inl c) (hP:cl w' g lp (Q (M ⟨gh,0,U⟩)) F bd 0) (hT:ak (fun k=>S k∨k=g) w w')
 | ok (k:Int) (he:e=Y (I J 0)) (hf:mr h=.inr k) (hP:cl w' g lp (Q (M ⟨gh,0,U⟩)) true bd 0) (hH:fU w' S gh { h with c:=k }) (hT:ak (fun k=>S k∨k=g) w w')
theorem pV {w:X}{S:Nat->Prop}{a:Nat}{h:df}(k:fU w S a h):w.cell? ⟨a,4,U⟩=M (I J h.c)∧w.frozen? ⟨a,4,U⟩=F:=by
 obtain⟨c,d,b,_⟩:=k;exact⟨aq w a 4 _ _ _ b,aP w a 4 _ _ b⟩
theorem wl {w c:X}{S:Nat->Prop}{g a:Nat}{f bd:Value}{h:df}(n:Int)(b:Bool)(l:Below w.heap.size w c)(m:cl c g f (Q (M ⟨a,0,U⟩)) F bd 0)(o:fU c S a h)(i:¬S g):
 cl ((c.setCell ⟨a,4,U⟩ (I J n)).setCell ⟨g,2,U⟩ (.bool b)) g f (Q (M ⟨a,0,U⟩)) b bd 0∧fU ((c.setCell ⟨a,4,U⟩ (I J n)).setCell ⟨g,2,U⟩ (.bool b)) S a { h with c:=n }∧ak (fun k=>S k∨k=g) w ((c.setCell ⟨a,4,U⟩ (I J n)).setCell ⟨g,2,U⟩ (.bool b)):=by
 obtain⟨p,j⟩:=o.j n;have d:=m.e j i;refine⟨d.jL b,p.f (ak.j (fun k=>k=g) _ _ _ rfl) (fun k q e=>i (e▸q)),?_⟩;exact(ak.e (S:=fun k=>S k∨k=g) l).a ((j.f (fun k e=>A e)).a (ak.j (fun k=>S k∨k=g) _ _ _ (R rfl)) (fun _ e _=>e)) (fun _ e _=>e)
theorem S9 (w:X)(g t:Nat)(lp bd:Value)(S:Nat->Prop)(h:df)(u:cl w g lp (Q (M ⟨t,0,U⟩)) F bd 0)(hH:fU w S t h)(N:¬S g)(hG:jo h):
 Calls prog 223 #[Q (M ⟨g,0,U⟩)] w fun e w'=>TA w S g t lp bd h e w':=by
 have T:=aa hH;obtain⟨fo,fZ,hr,ho,h1,h2⟩:=hH;have c1:=u.j;have c3:w.cell? ⟨t,3,U⟩=M (Z fo h.a.length fZ):=aq w t 3 _ _ _ hr;have c2:w.cell? ⟨t,2,U⟩=M (I J (h.d:Int)):=aq w t 2 _ _ _ hr;have hs:∀p∈cf h.a,p.1.size<=2000∧p.2.size<=2000:=fun p hp=>by
  obtain⟨f,hf,rfl⟩:=oh.1 hp;have:=hG.c f hf;exact⟨by show f.1.toArray.size<=2000;rw[cx];omega,by show f.2.toArray.size<=2000;rw[cx];omega⟩
 have B:(cf h.a).length=h.a.length:=uO _;have akp:=hG.a;have r:=fun W (v:Below w.heap.size w W)=>And.intro ((v.cell (ch w _ c1)).trans c1) (And.intro ((v.cell (ch w _ c2)).trans c2) ((v.cell (ch w _ c3)).trans c3));have s:=yy (cf h.a) uy fo fZ h.a.length w ho.a B (by omega) hs (by decide);rw[Eu] at s;have x:=fun W (v:Below w.heap.size w W)=>Oz t h.d (cf h.a) fo fZ h.a.length W (r W v).2.1 (r W v).2.2 (ho.a.a v) B (by omega) hs;have b:=OV h;generalize (aH gv (cf h.a)).length=H at s b;have l:∀c,oS h.d (bU (aH gw (cf h.a))) (bU (aH gx (cf h.a)))=.inl c->c≠0:=fun c e=>OR e;generalize oS h.d (bU (aH gw (cf h.a))) (bU (aH gx (cf h.a)))=aaT at x b l;unfold uy at s;by_cases hb:1<H∨H=0∧h.d=1
 . rw[if_pos hb] at b;by_cases hH1:1<H
   . have t1:decide ((H:Int) > 1)=true:=bq (by omega);go_enter func223,ntmps223;go_wp2_with fail;refine s.mono ?_;rintro e i ⟨rfl,a⟩;have C:=(r i a).1;have D:=(r i a).2.1;go_wp2;go_ret;exact .bad 13 (by omega) rfl b (u.a a) (ak.e a)
   . have t1:decide ((H:Int) > 1)=F:=aX (by omega);have t0:((H:Int)==0)=true:=cJ.2 (by omega);have tm:((h.d:Int)==1)=true:=cJ.2 (by omega);go_enter func223,ntmps223;go_wp2_with fail;refine s.mono ?_;rintro e i ⟨rfl,a⟩;have C:=(r i a).1;have D:=(r i a).2.1;go_wp2;go_ret;exact .bad 13 (by omega) rfl b (u.a a) (ak.e a)
 . rw[if_neg hb] at b;have t1:decide ((H:Int) > 1)=F:=aX (by omega);have hz:((H:Int)==0)=F∨((H:Int)==0)=true∧((h.d:Int)==1)=F:=by
    by_cases h0:H=0
    . exact R ⟨cJ.2 (by omega),aO.2 (by omega)⟩
    . exact A (aO.2 (by omega))
   cases aaT with
   | inl c =>
     have tc:((c:Int)==0)=F:=aO.2 (by have:=l c rfl;omega);have G:=l c rfl;unfold sg at x;rcases hz with t0 | ⟨t0,tm⟩
     . go_enter func223,ntmps223;go_wp2_with fail;refine s.mono ?_;rintro e i ⟨rfl,a⟩;have C:=(r i a).1;have D:=(r i a).2.1;go_wp2_with fail;refine(x i a).mono ?_;rintro e w2 ⟨rfl,m⟩;have d:=au a m;have j:=(u.a d);have n:=aa (T.o.e d);have q:=aa d
       have q1:=j.j;have q2:=j.y;have qf:=j.f 2;have m4:=(pV n.o).1;have mf:=(pV n.o).2;go_wp2;go_ret;obtain⟨y,L,z⟩:=wl 0 F q.o j n.o N;exact .bad c G rfl b y z
     . go_enter func223,ntmps223;go_wp2_with fail;refine s.mono ?_;rintro e i ⟨rfl,a⟩;have C:=(r i a).1;have D:=(r i a).2.1;go_wp2_with fail;refine(x i a).mono ?_;rintro e w2 ⟨rfl,m⟩;have d:=au a m;have j:=(u.a d);have n:=aa (T.o.e d);have q:=aa d
       have q1:=j.j;have q2:=j.y;have qf:=j.f 2;have m4:=(pV n.o).1;have mf:=(pV n.o).2;go_wp2;go_ret;obtain⟨y,L,z⟩:=wl 0 F q.o j n.o N;exact .bad c G rfl b y z
   | inr k =>
     unfold sg at x;rcases hz with t0 | ⟨t0,tm⟩
     . go_enter func223,ntmps223;go_wp2_with fail;refine s.mono ?_;rintro e i ⟨rfl,a⟩;have C:=(r i a).1;have D:=(r i a).2.1;go_wp2_with fail;refine(x i a).mono ?_;rintro e w2 ⟨rfl,m⟩;have d:=au a m;have j:=(u.a d);have n:=aa (T.o.e d);have q:=aa d
       have q1:=j.j;have q2:=j.y;have qf:=j.f 2;have m4:=(pV n.o).1;have mf:=(pV n.o).2;go_wp2;go_ret;obtain⟨y,L,z⟩:=wl k true q.o j n.o N;exact .ok k rfl b y L z
     . go_enter func223,ntmps223;go_wp2_with fail;refine s.mono ?_;rintro e i ⟨rfl,a⟩;have C:=(r i a).1;have D:=(r i a).2.1;go_wp2_with fail;refine(x i a).mono ?_;rintro e w2 ⟨rfl,m⟩;have d:=au a m;have j:=(u.a d);have n:=aa (T.o.e d);have q:=aa d
       have q1:=j.j;have q2:=j.y;have qf:=j.f 2;have m4:=(pV n.o).1;have mf:=(pV n.o).2;go_wp2;go_ret;obtain⟨y,L,z⟩:=wl k true q.o j n.o N;exact .ok k rfl b y L z
inductive AU (w:X)(S:Nat->Prop)(g:Nat)(s:bL)(t:ab)(e:Ending)(w':X):Prop
 | quiet (s':bL) (he:e=Y (I J 0)) (hl:ip s t=(s',[])) (hR:dN w' (ay S w) g s') (hT:ak S w w')
 | bad (c:Nat) (hc:c≠0) (he:e=Y (I J (c:Int))) (hl:ip s t=(kQ s,[.fail c])) (lp hp bd:Value) (hP:cl w' g lp hp F bd 0) (hT:ak S w w')
 | whole (k:Int) (gl gh:Nat) (D:Nat->Prop) (he:e=Y (I J 0)) (hk:mr s.c=.inr k) (ht:t=[]) (h1:s.a=1) (hP:cl w' g (Q (M ⟨gl,0,U⟩)) (Q (M ⟨gh,0,U⟩)) true .nilIface 0)
  (hL:cN w' (fun k=>(S k∧k≠g)∧¬D k) gl s.b) (hH:fU w' (fun k=>(S k∧k≠g)∧D k) gh { s.c with c:=k }) (hT:ak S w w')
theorem C8 {t:ae}(h:t.data.toList=[]):t=⟨#[]⟩:=by
 have:t.data=#[]:=by
  apply Array.ext';simpa using h
 cases t;simp only at this;rw[this]
theorem Ej {t:ae}(h:t.data.toList≠[]):0<t.size:=by
 have a:t.data.toList.length=t.size:=by rw[cI];rfl
 have:=mC.2 h;omega
theorem dN.j {w W:X}{S:Nat->Prop}{g:Nat}{s:bL}(h:dN w S g s):dN w (ay S W) g s:=h.a (fun _ _ e=>A e)
theorem R1 (w:X)(S:Nat->Prop)(g:Nat)(s:bL)(t:ae)(h:dN w S g s)(z:s.a=0)(ht:t.size<=200)(W:∀b∈t.data.toList,ex b.toNat=true):
 Calls prog 166 #[Q (M ⟨g,0,U⟩),V t] w fun e w'=>AU w S g s t.data.toList e w':=by
 have HR:=aa h;obtain⟨hg,lp,hpp,bd,code,l,hI⟩:=h;cases hI with
 | dead c hc h4=>omega
 | Nz i C D h1 L H=>omega
 | at2 i gb h2 L hb B=>omega
 | at3 i gb D h3 L B=>omega
 | Kj i h0 L =>
   have c1:=l.j;by_cases m:t.data.toList=[]
   . obtain rfl:=C8 m;have j:Hid (ip s []=(s,[])):=by unfold Hid ip;rw[if_pos z,if_pos rfl]
     go_enter func166,ntmps166;go_wp2;go_ret;exact .quiet s rfl j.o HR.o.j (ak.r _ _)
   . have n:=Ej m;have G:=qm t n;have HF:=aa (Rs w g _ _ t l (by omega) W);have j:Hid (ip s t.data.toList=match kR t.data.toList with | .inl c=>(kQ s,[.fail c]) | .inr h=>({ s with a:=1,c:=h },[])):=by
      unfold Hid ip;rw[if_pos z,if_neg m];cases kR t.data.toList <;> rfl
     have N:=l;have p:=aa L;have d:=aa hg
     have q:∀c,kR t.data.toList=.inl c->c≠0:=fun c e=>by
      unfold kR at e;split at e
      . split at e
        . injection e with e;omega
        . split at e
          . injection e with e;omega
          . split at e
            . cases e
            . split at e
              . cases e
              . injection e with e;omega
      . injection e with e;omega
     generalize t.data.toList=tl at *;go_enter func166,ntmps166;go_wp2_with fail;refine HF.o.mono ?_;rintro e w1 (⟨c,rfl,r,hB⟩ | ⟨hd,C,rfl,r,u,v,x⟩)
     . have a:=aa r;have T:=aa hB
       go_wp2;go_ret;refine .bad c (q c a.o) rfl ?_ _ _ _ (N.a T.o) (ak.e T.o);rw[j.o,a.o]
     . have a:=aa r;have Wo:=aa u;have y:=aa v;have f:=aa x
       go_wp2;go_ret;refine .quiet { s with a:=1,c:=hd } rfl (by rw[j.o,a.o]) ⟨A d.o,_,_,_,_,Wo.o,?_⟩ (f.o.f (fun k e=>by rw[e];exact d.o));refine .Nz i C (fun k=>w.heap.size<=k) rfl ?_ ?_
       . refine((p.o.a (S':=fun k=>(ay S w k∧k≠g)∧¬w.heap.size<=k) (fun k hk e=>⟨⟨A e.1,e.2⟩,by omega⟩)).e f.o (fun k e=>e.1.2))
       . refine y.o.a (fun k hk e=>⟨⟨R e,?_⟩,e⟩);have:=N.r;omega
theorem R2 (w:X)(S:Nat->Prop)(g:Nat)(s:bL)(t:ae)(h:dN w S g s)(hp:s.a=1)(hG:jo s.c)(ht:t.size<=200):
 Calls prog 166 #[Q (M ⟨g,0,U⟩),V t] w fun e w'=>AU w S g s t.data.toList e w':=by
 obtain⟨hg,lp,hpp,bd,code,r,hI⟩:=h;cases hI with
 | dead c j h4=>omega
 | Kj v h0 L=>omega
 | at2 v gb h2 L hb B=>omega
 | at3 v gb D h3 L B=>omega
 | Nz v u D h1 L H =>
   have c1:=r.j;have x:¬((fun k=>(S k∧k≠g)∧D k) g):=fun e=>e.1.2 rfl;have G:=r;have y:=aa L;have l:=aa hg;have R3:=aa H
   by_cases N:t.data.toList=[]
   . obtain rfl:=C8 N;have T:∀c,mr s.c=.inl c->ip s []=(kQ s,[.fail c]):=fun c e=>by
      unfold ip;rw[if_neg (by omega),if_pos rfl,e]
     go_enter func166,ntmps166;go_wp2_with fail;refine(S9 w g u _ _ _ s.c r H x hG).mono ?_;rintro e W (⟨c,j,rfl,hf,d,f⟩ | ⟨k,rfl,hf,d,m,f⟩)
     . have n:=aa hf;have z:=aa d;have a:=aa f;have Pg:=aa j
       go_wp2;go_ret;exact .bad c Pg.o rfl (T c n.o) _ _ _ z.o (a.o.f (fun k e=>by
        rcases e with e | e
        . exact e.1.1
        . rw[e];exact l.o))
     . have n:=aa hf;have z:=aa d;have a:=aa f;have p:=aa m
       go_wp2;go_ret;refine .whole k v u D rfl n.o rfl hp z.o ?_ p.o (a.o.f (fun k e=>by
        rcases e with e | e
        . exact e.1.1
        . rw[e];exact l.o))
       exact y.o.e a.o (fun k e b=>by
        rcases b with b | b
        . exact e.2 b.2
        . exact e.1.2 b)
   . have hts:=Ej N;have hemp:=qm t hts;have q:ip s t.data.toList=if s.c.a.length=16 then (kQ s,[.fail 8]) else if (aZ t.data.toList).a≠0 then (kQ s,[.fail (aZ t.data.toList).a]) else ({ s with c:={ s.c with a:=s.c.a++[((aZ t.data.toList).b,(aZ t.data.toList).c)] } },[]):=by
      unfold ip;rw[if_neg (by omega),if_neg N]
     by_cases i:s.c.a.length=16
     . have C:=aa (Oy w g u _ _ _ s.c t r H i);rw[if_pos i] at q;generalize t.data.toList=tl at *;go_enter func166,ntmps166;go_wp2_with fail;refine C.o.mono ?_;rintro e W ⟨rfl,hw⟩;subst hw;go_wp2;go_ret;exact .bad 8 (by omega) rfl q _ _ _ G (ak.r _ _)
     . rw[if_neg i] at q;by_cases j:(aZ t.data.toList).a=0
       . have C:=aa (RX w g u _ _ _ s.c t r H x (by have:=hG.a;omega) (by omega) j);rw[if_neg (fun e=>e j)] at q;generalize aZ t.data.toList=fd at *;generalize t.data.toList=tl at *;go_enter func166,ntmps166;go_wp2_with fail;refine C.o.mono ?_;rintro e W ⟨rfl,d,m,f⟩;have z:=d;have p:=aa m;have a:=aa f
         go_wp2;go_ret;refine .quiet _ rfl q ⟨A l.o,_,_,_,_,z,?_⟩ (a.o.f (fun k e=>e.1.1));refine .Nz v u (fun k=>D k∨w.heap.size<=k) hp ?_ ?_
         . refine((y.o.a (S':=fun k=>((ay S w k∧k≠g)∧¬(D k∨w.heap.size<=k))) (fun k hk e=>⟨⟨A e.1.1,e.1.2⟩,fun b=>by
            rcases b with b | b
            . exact e.2 b
            . omega⟩)).e a.o (fun k e b=>e.2 (A b.2)))
         . refine p.o.a (fun k hk e=>?_);rcases e with e | e
           . exact⟨⟨A e.1.1,e.1.2⟩,A e.2⟩
           . exact⟨⟨R e,by have:=G.r;omega⟩,R e⟩
       . have C:=aa (Rt w g u _ _ _ s.c t r H i (by omega) j);rw[if_pos j] at q;have T:=q;have Pg:=aa j
         generalize (aZ t.data.toList).a=cc at *;generalize t.data.toList=tl at *;go_enter func166,ntmps166;go_wp2_with fail;refine C.o.mono ?_;rintro e W ⟨rfl,hB⟩;go_wp2;go_ret;exact .bad cc Pg.o rfl T _ _ _ (G.a hB) (ak.e hB)
def oR (tk tg:Bool)(aeb nb nf s c h:Nat):Nat :=
 if tk=F then 6 else if tg=F then 5 else if 200<aeb∨4000<nb then 4 else if 15<nf then 8 else if 0<s∨0<c then 12 else if h≠1 then 13 else 0
theorem Ek (w:X)(m t first:ae)(mi ln:Int)(l:aC)(fo bo:ag)(fZ nf nb fV:Nat)(hl:bx w fo fZ nf (aJ l))(T:l.length=nf)(hN:nf<=1000000)(hs:∀p∈l,p.1.size<=2000∧p.2.size<=2000)(hm:m.size<=1000000)(ht:t.size<=1000000):
 Calls prog 244 #[.agg #[V m,V t,I J mi,Z fo nf fZ,I J ln],V first,Z bo nb fV] w fun e w'=>e=Y (I J (oR (fi m.data.toList) (iV t.data.toList) first.size nb nf (aH gw l).length (aH gx l).length (aH gv l).length:Int))∧Below w.heap.size w w':=by
 have G:Below w.heap.size w (w.alloc (K #[V m,V t,I J mi,Z fo nf fZ,I J ln] 82)):=(ar _ _).alloc (am _) _;have hV:∀W,Below (w.alloc (K #[V m,V t,I J mi,Z fo nf fZ,I J ln] 82)).heap.size (w.alloc (K #[V m,V t,I J mi,Z fo nf fZ,I J ln] 82)) W->bx W fo fZ nf (aJ l):=fun W y=>(hl.a G).a y;have z:=aa (fun W=>yh m W (by unfold maxLen;omega));have C:=aa (fun W=>BX t W ht);have N:=aa (fun W (y:Below (w.alloc (K #[V m,V t,I J mi,Z fo nf fZ,I J ln] 82)).heap.size (w.alloc (K #[V m,V t,I J mi,Z fo nf fZ,I J ln] 82)) W)=>yy l uA fo fZ nf W (hV W y) T hN hs (by decide));have r:=aa (fun W (y:Below (w.alloc (K #[V m,V t,I J mi,Z fo nf fZ,I J ln] 82)).heap.size (w.alloc (K #[V m,V t,I J mi,Z fo nf fZ,I J ln] 82)) W)=>yy l uB fo fZ nf W (hV W y) T hN hs (by decide));have B:=aa (fun W (y:Below (w.alloc (K #[V m,V t,I J mi,Z fo nf fZ,I J ln] 82)).heap.size (w.alloc (K #[V m,V t,I J mi,Z fo nf fZ,I J ln] 82)) W)=>yy l uy fo fZ nf W (hV W y) T hN hs (by decide));simp only[Ew,Ei,Eu] at N r B;have H:(w.alloc (K #[V m,V t,I J mi,Z fo nf fZ,I J ln] 82)).cell? ⟨w.heap.size,3,U⟩=M (Z fo nf fZ):=by rw[World.cell?_alloc_mark];rfl
 have q:Hid (∀W,Below (w.alloc (K #[V m,V t,I J mi,Z fo nf fZ,I J ln] 82)).heap.size (w.alloc (K #[V m,V t,I J mi,Z fo nf fZ,I J ln] 82)) W->W.cell? ⟨w.heap.size,3,U⟩=M (Z fo nf fZ)):=fun W y=>(y.cell (ch _ _ H)).trans H;have g:=aa G;have DJ:Hid (oR (fi m.data.toList) (iV t.data.toList) first.size nb nf (aH gw l).length (aH gx l).length (aH gv l).length=if fi m.data.toList=F then 6 else if iV t.data.toList=F then 5 else if 200<first.size∨4000<nb then 4 else if 15<nf then 8 else if 0<(aH gw l).length∨0<(aH gx l).length then 12 else if (aH gv l).length≠1 then 13 else 0):=rfl;generalize oR (fi m.data.toList) (iV t.data.toList) first.size nb nf (aH gw l).length (aH gx l).length (aH gv l).length=aaT at DJ ⊢;generalize (aH gw l).length=vs at *;generalize (aH gx l).length=vc at *;generalize (aH gv l).length=vh at *;generalize fi m.data.toList=tk at *;generalize iV t.data.toList=tg at *;simp only[uA] at N;simp only[uB] at r;simp only[uy] at B;have c:=DJ.o;clear G hV H hl hs T DJ;cases tk
 . rw[if_pos rfl] at c;have j:=aa c;clear c;go_enter func244,ntmps244;go_wp2_with fail;refine(z.o _).mono ?_;rintro e D ⟨rfl,k⟩;subst k;go_wp2;go_ret;exact⟨jQ (by rw[j.o];rfl),g.o⟩
 . rw[if_neg (by simp)] at c;cases tg
   . rw[if_pos rfl] at c;have j:=aa c;clear c;go_enter func244,ntmps244;go_wp2_with fail;refine(z.o _).mono ?_;rintro e D ⟨rfl,k⟩;subst k;go_wp2_with fail;refine(C.o _).mono ?_;rintro e i ⟨rfl,a⟩;have b:=aa a;have s:=q.o i a;clear a;go_wp2;go_ret;exact⟨jQ (by rw[j.o];rfl),g.o.trans (b.o.mono (by simp))⟩
   . rw[if_neg (by simp)] at c;by_cases h1:200<first.size
     . have u1:decide ((first.size:Int) > 200)=true:=bq (by omega);rw[if_pos (A h1)] at c;have j:=aa c;clear c;go_enter func244,ntmps244;go_wp2_with fail;refine(z.o _).mono ?_;rintro e D ⟨rfl,k⟩;subst k;go_wp2_with fail;refine(C.o _).mono ?_;rintro e i ⟨rfl,a⟩;have b:=aa a;have s:=q.o i a;clear a;go_wp2;go_ret;exact⟨jQ (by rw[j.o];rfl),g.o.trans (b.o.mono (by simp))⟩
     . have u1:decide ((first.size:Int) > 200)=F:=aX (by omega);by_cases h2:4000<nb
       . have u2:decide ((nb:Int) > 4000)=true:=bq (by omega);rw[if_pos (R h2)] at c;have j:=aa c;clear c;go_enter func244,ntmps244;go_wp2_with fail;refine(z.o _).mono ?_;rintro e D ⟨rfl,k⟩;subst k;go_wp2_with fail;refine(C.o _).mono ?_;rintro e i ⟨rfl,a⟩;have b:=aa a;have s:=q.o i a;clear a;go_wp2;go_ret;exact⟨jQ (by rw[j.o];rfl),g.o.trans (b.o.mono (by simp))⟩
       . have u2:decide ((nb:Int) > 4000)=F:=aX (by omega);rw[if_neg (fun e=>by rcases e with e | e;exact h1 e;exact h2 e)] at c;by_cases h3:15<nf
         . have u3:decide ((nf:Int) > 15)=true:=bq (by omega);rw[if_pos h3] at c;have j:=aa c;clear c;go_enter func244,ntmps244;go_wp2_with fail;refine(z.o _).mono ?_;rintro e D ⟨rfl,k⟩;subst k;go_wp2_with fail;refine(C.o _).mono ?_;rintro e i ⟨rfl,a⟩;have b:=aa a;have s:=q.o i a;clear a;go_wp2;go_ret;exact⟨jQ (by rw[j.o];rfl),g.o.trans (b.o.mono (by simp))⟩
         . have u3:decide ((nf:Int) > 15)=F:=aX (by omega);rw[if_neg h3] at c;by_cases h4:0<vs
           . have u4:decide ((vs:Int) > 0)=true:=bq (by omega);rw[if_pos (A h4)] at c;have j:=aa c;clear c;go_enter func244,ntmps244;go_wp2_with fail;refine(z.o _).mono ?_;rintro e D ⟨rfl,k⟩;subst k;go_wp2_with fail;refine(C.o _).mono ?_;rintro e i ⟨rfl,a⟩;have b:=aa a;have s:=q.o i a;clear a;go_wp2_with fail;refine(N.o i b.o).mono ?_;rintro e v ⟨rfl,f⟩;have d:=aa (au b.o f);have S:=q.o v d.o;clear f s;go_wp2;go_ret;exact⟨jQ (by rw[j.o];rfl),g.o.trans (d.o.mono (by simp))⟩
           . have u4:decide ((vs:Int) > 0)=F:=aX (by omega);by_cases h5:0<vc
             . have u5:decide ((vc:Int) > 0)=true:=bq (by omega);rw[if_pos (R h5)] at c;have j:=aa c;clear c;go_enter func244,ntmps244;go_wp2_with fail;refine(z.o _).mono ?_;rintro e D ⟨rfl,k⟩;subst k;go_wp2_with fail;refine(C.o _).mono ?_;rintro e i ⟨rfl,a⟩;have b:=aa a;have s:=q.o i a;clear a;go_wp2_with fail;refine(N.o i b.o).mono ?_;rintro e v ⟨rfl,f⟩;have d:=aa (au b.o f);have S:=q.o v d.o;clear f s;go_wp2_with fail;refine(r.o v d.o).mono ?_;rintro e L ⟨rfl,n⟩;have x:=aa (au d.o n);have r3:=q.o L x.o;clear n S;go_wp2;go_ret;exact⟨jQ (by rw[j.o];rfl),g.o.trans (x.o.mono (by simp))⟩
             . have u5:decide ((vc:Int) > 0)=F:=aX (by omega);rw[if_neg (fun e=>by rcases e with e | e;exact h4 e;exact h5 e)] at c;by_cases h6:vh=1
               . have u6:((vh:Int) != 1)=F:=by rw[bne_eq_false_iff_eq];omega
                 rw[if_neg (fun e=>e h6)] at c;have j:=aa c;clear c h6;go_enter func244,ntmps244;go_wp2_with fail;refine(z.o _).mono ?_;rintro e D ⟨rfl,k⟩;subst k;go_wp2_with fail;refine(C.o _).mono ?_;rintro e i ⟨rfl,a⟩;have b:=aa a;have s:=q.o i a;clear a;go_wp2_with fail;refine(N.o i b.o).mono ?_;rintro e v ⟨rfl,f⟩;have d:=aa (au b.o f);have S:=q.o v d.o;clear f s;go_wp2_with fail;refine(r.o v d.o).mono ?_;rintro e L ⟨rfl,n⟩;have x:=aa (au d.o n);have r3:=q.o L x.o;clear n S;go_wp2_with fail;refine(B.o L x.o).mono ?_;rintro e w5 ⟨rfl,u⟩;have oG:=aa (au x.o u);clear u r3;go_wp2;go_ret;exact⟨jQ (by rw[j.o];rfl),g.o.trans (oG.o.mono (by simp))⟩
               . have u6:((vh:Int) != 1)=true:=by rw[dh];omega
                 rw[if_pos h6] at c;have j:=aa c;clear c h6;go_enter func244,ntmps244;go_wp2_with fail;refine(z.o _).mono ?_;rintro e D ⟨rfl,k⟩;subst k;go_wp2_with fail;refine(C.o _).mono ?_;rintro e i ⟨rfl,a⟩;have b:=aa a;have s:=q.o i a;clear a;go_wp2_with fail;refine(N.o i b.o).mono ?_;rintro e v ⟨rfl,f⟩;have d:=aa (au b.o f);have S:=q.o v d.o;clear f s;go_wp2_with fail;refine(r.o v d.o).mono ?_;rintro e L ⟨rfl,n⟩;have x:=aa (au d.o n);have r3:=q.o L x.o;clear n S;go_wp2_with fail;refine(B.o L x.o).mono ?_;rintro e w5 ⟨rfl,u⟩;have oG:=aa (au x.o u);clear u r3;go_wp2;go_ret;exact⟨jQ (by rw[j.o];rfl),g.o.trans (oG.o.mono (by simp))⟩
theorem vC:Builder.Extra prog Tryz.lays156_ren where
 sizeBuilder:=by kernel_rfl
 liesBuilder:=by kernel_rfl
 t5:=underlying5
 a5:=isAgg5
 z5:=Tryz.sizeOf5
 v5:=Tryz.zeroValue5
 infoByte:=by kernel_rfl
 cellsByte:=by kernel_rfl
 sizeByte:=by kernel_rfl
 neB5:=by decide
theorem Da (x y z:ae)(bk:Nat)(w:X)(c:w.cell? ⟨bk,0,U⟩=M (V x))(f:w.cell? ⟨bk,1,U⟩=M (V y))(g:w.cell? ⟨bk,2,U⟩=M (V z))(k:x.size+y.size+z.size<=1000000):
 Calls prog 199 #[Z (M ⟨bk,0,U⟩) 3 3,V ⟨#[32]⟩] w fun e w'=>e=Y (V ⟨(x.data.toList++32::(y.data.toList++32::z.data.toList)).toArray⟩)∧Below w.heap.size w w':=by
 have d:Lib.join (([x,y,z]:List ae).map (·.data.toList)) [32]=x.data.toList++32::(y.data.toList++32::z.data.toList):=by
  simp[Lib.join,List.intercalate,List.intersperse]
 have b:∀s:ae,s.data.toList.length=s.size:=fun s=>by rw[cI];rfl
 have h:=Any.strings_Join Tryz.lays156 vC bk 0 3 [x,y,z] ⟨#[32]⟩ w (fun j u a=>by
  match j,a with
  | 0,a=>injection a with a;subst a;simpa using c
  | 1,a=>injection a with a;subst a;simpa using f
  | 2,a=>injection a with a;subst a;simpa using g
  | j + 3, a => simp at a) (ch w _ c) (by simp) (by simp) (by
    show(Lib.join (([x,y,z]:List ae).map (·.data.toList)) [32]).length<=_;rw[d];have:=b x;have:=b y;have:=b z
    simp only[aD,bF];omega)
 have i:Lib.join (([x,y,z]:List ae).map (·.data.toList)) (⟨#[32]⟩:ae).data.toList=x.data.toList++32::(y.data.toList++32::z.data.toList):=d;rw[i] at h;exact h
theorem jD.e {w:X}{S:Nat->Prop}{t:Nat}{ao:ag}{cap b j:Nat}{l:ab}{d:Array Value}{T:Nat}{f:Nat×Nat}(h:jD w S t ao cap l)(g:w.heap[b]? = M (K d T f))(i:T≠t)(v:Value):jD (w.setCell ⟨b,j,U⟩ v) S t ao cap l:=by
 rcases h with h | ⟨m,c,n⟩
 . exact A h
 . refine R ⟨m,c.j (ak.j (fun k=>k=b) w ⟨b,j,U⟩ v rfl) (fun a e o=>?_),n⟩;subst e;exact gG g c i (lL M o)
theorem jD.j {w:X}{S:Nat->Prop}{t:Nat}{ao:ag}{cap b:Nat}{l:ab}{d:Array Value}{T:Nat}{f:Nat×Nat}(h:jD w S t ao cap l)(g:w.heap[b]? = M (K d T f))(i:T≠t):jD w (fun k=>S k∧k≠b) t ao cap l:=by
 rcases h with h | ⟨j,c,m⟩
 . exact A h
 . refine R ⟨j,c,fun a e=>⟨m a e,fun n=>?_⟩⟩;subst e;exact gG g c i (lL M n)
def ky (w:X)(S:Nat->Prop)(b:Nat)(l:ab):Prop :=
 ∃(p:Value) (ao:ag) (cap:Nat),(p=Q U∨p=Q (M ⟨b,0,U⟩))∧w.heap[b]? = M (K #[p,Z ao l.length cap] 167 (0,0))∧S b∧jD w S 5 ao cap l
section
variable {w w':X} {S S':Nat->Prop} {b:Nat} {l:ab}
theorem ky.f (w:X):ky (w.alloc (K #[Q U,Z U 0 0] 167)) (fun k=>w.heap.size<=k) w.heap.size [] :=
 ⟨_,U,0,A rfl,be w _,am _,jD.f _ _ _⟩
theorem ky.e (h:ky w S b l):b<w.heap.size:=by
 obtain⟨p,d,a,_,c,_⟩:=h;exact(bM.1 c).1
theorem ky.q (h:ky w S b l)(c:ak S' w w')(d:∀k,S k->¬S' k):ky w' S b l:=by
 obtain⟨p,f,a,g,i,e,j⟩:=h;exact⟨p,f,a,g,c.q i (d b e),e,j.q c d⟩
theorem ky.a (h:ky w S b l)(d:∀k,k<w.heap.size->S k->S' k):ky w S' b l:=by
 have a:=h.e;obtain⟨p,e,c,f,g,i,j⟩:=h;exact⟨p,e,c,f,g,d b a i,j.a d⟩
theorem ky.j (h:ky w S b l)(a:Below w.heap.size w w'):ky w' S b l:=h.q (ak.e (S:=fun _=>False) a) (fun _ _ e=>e)
theorem C5 (h:ky w S b l)(s:ae)(r:l.length+s.size<=100000000000000):
 Calls prog 84 #[Q (M ⟨b,0,U⟩),V s] w fun e w'=>e=Y (.tuple #[I J s.size,.nilIface])∧ky w' (ay S w) b (l++s.data.toList)∧ak S w w':=by
 obtain⟨i0,z,B,C,D⟩:=info_parts gm;have hlt:=h.e;have t:s.data.toList.length=s.size:=cA s;obtain⟨p,G,q,hp,j,H,L⟩:=h;obtain⟨f,N,hC⟩:∃f,(f.heap[b]? = M (K #[Q (M ⟨b,0,U⟩),Z G l.length q] 167 (0,0))∧jD f S 5 G q l∧ak (fun k=>k=b) w f∧f.heap.size=w.heap.size)∧Calls prog 138 #[Q (M ⟨b,0,U⟩)] w fun e w'=>e=Y (.tuple #[])∧w'=f:=by
  rcases hp with rfl | rfl
  . refine⟨w.setCell ⟨b,0,U⟩ (Q (M ⟨b,0,U⟩)),⟨aR w b 0 _ _ _ j,L.e j (by decide) _,ak.j _ w _ _ rfl,by simp[World.setCell]⟩,?_⟩;exact Any.Builder_copyCheck_fresh { Tryz.lays156 with } vC.toX72 b w (aq w b 0 _ _ _ j) (by simp[World.shape?,j];rfl) (aP w b 0 _ _ j)
  . refine⟨w,⟨j,L,ak.r _ _,rfl⟩,?_⟩;exact Any.Builder_copyCheck_used { Tryz.lays156 with } vC.toX72 b w (aq w b 0 _ _ _ j)
 obtain⟨d,u,v,T⟩:=N;have c0:=aq f b 0 _ _ _ d;have c1:=aq f b 1 _ _ _ d;simp at c0 c1;have hX:∀m a c,jD c (ay (fun k=>S k∧k≠b) f) 5 m a (l++s.data.toList)->ak (fun k=>S k∧k≠b) f c->(c.cell? ⟨b,1,U⟩=M (Z G l.length q)∧c.frozen? ⟨b,1,U⟩=F)∧ky (c.setCell ⟨b,1,U⟩ (Z m (l.length+s.size) a)) (ay S w) b (l++s.data.toList)∧ak S w (c.setCell ⟨b,1,U⟩ (Z m (l.length+s.size) a)):=fun m a c h1 h2=>by
  have g:=h2.q d (fun e=>e.2 rfl);refine⟨⟨by simpa using aq c b 1 _ _ _ g,aP c b 1 _ _ g⟩,⟨Q (M ⟨b,0,U⟩),m,a,R rfl,?_,A H,(h1.e g (by decide) _).a (fun k _ e=>?_)⟩,?_⟩
  . have:=aR c b 1 _ _ (Z m (l.length+s.size) a) g;rw[aD,t];exact this
  . rcases e with e | e
    . exact A e.1
    . exact R (by omega)
  . exact((v.f (S':=S) (fun k e=>by rw[e];exact H)).a h2 (fun i e _=>e.1)).a (ak.j (fun k=>k=b) c ⟨b,1,U⟩ _ rfl) (fun i e _=>by rw[e];exact H)
 have HB:=aa (u.j d (by decide));have HX:=aa hX
 obtain⟨n,W⟩:∃n,l.length=n:=⟨_,rfl⟩;have HN:=aa W;rw[W] at c1 r HX;clear hp j L u d v T W t hX;go_enter func84,ntmps84;go_wp2_with fail;refine hC.mono ?_;rintro e w' ⟨rfl,rfl⟩;go_wp2_with (at_builtin;refine Is rfl (.tmp 12) (.tmp 13) 31 9 rfl 5 i0 underlying31 underlying9 z B C D rfl HN.o (HB.o) s rfl (by omega) ?_;intro m a c x y;obtain⟨⟨d0,d1⟩,hY⟩:=HX.o m a c x y;have HY:=aa hY;clear x y hY)
 go_ret2;exact⟨rfl,HY.o⟩
theorem C6 (h:ky w S b l)(t:l.length<=100000000000000):
 Calls prog 86 #[Q (M ⟨b,0,U⟩)] w fun e w'=>e=Y (V ⟨l.toArray⟩)∧ak S w w':=by
 obtain⟨p,ao,a,hp,u,hS,B⟩:=h;rcases B with ⟨rfl,rfl,rfl⟩ | ⟨d,v,C⟩
 . have f:=fun(W:X) q=>Lib.run_unsafeString_none (P:=prog) W 230 3 9 q;have D:w.drew.cell? ⟨b,1,U⟩=M (Z U 0 0):=by simpa using aq w.drew b 1 _ _ _ u
   have i:(Builtin.unsafeSliceData_ #[31] 230 #[Z U 0 0]).run prog w.drew=.ok (Q U) w.drew:=rfl;go_enter func86,ntmps86;go_wp2;go_region
   all_goals (go_wp2;go_ret;exact⟨rfl,ak.B S w 1⟩)
 . obtain⟨g,a,c,G,hg,y,H,L,N,m⟩:=v.2.resolve_left (fun e=>d (iz e.2));injection G with T e2 e3;subst T;subst e3;have hl0:l.length≠0:=fun e=>d (iz e);have r:=C _ rfl;have D:w.drew.cell? ⟨b,1,U⟩=M (Z (M ⟨g,0,U⟩) l.length a):=by simpa using aq w.drew b 1 _ _ _ u
   have i:(Builtin.unsafeSliceData_ #[31] 230 #[Z (M ⟨g,0,U⟩) l.length a]).run prog w.drew=.ok (Q (M ⟨g,0,U⟩)) w.drew:=Lib.run_unsafeSliceData_row _ _ _ _ _ _ (by omega);have f:(Builtin.unsafeString_ #[230,3] 9 #[Q (M ⟨g,0,U⟩),I J l.length]).run prog w.drew=.ok (V ⟨l.toArray⟩) (w.drew.freeze ⟨g,0,U⟩ l.length):=by
    refine Lib.run_unsafeString_row w.drew 230 3 9 5 underlying230 vC.cellsByte g c.size (by have s:w.drew.heap[g]? = M (K c 5 (0,0)):=y;simp[World.shape?,s]) l d (by omega) (by omega) ?_;intro j x hx;obtain⟨hj,rfl⟩:=fw.1 hx;exact World.ownsRow.cells v (g:=g) rfl j _ (jO l j hj)
   have z:ak S w (w.drew.freeze ⟨g,0,U⟩ l.length):=by
    unfold World.freeze;split
    . exact ak.B S w 1
    . exact⟨rfl,rfl,rfl,by simp,fun k hk hn=>by
       simp only[Array.getElem?_modify];rw[if_neg (fun e=>hn (by rw[<-e];exact r))];rfl⟩
   have HT:=aa z;clear z y m;generalize l.length=n at *;go_enter func86,ntmps86;go_wp2;go_region
   all_goals (go_wp2;go_ret;exact⟨rfl,HT.o⟩)
