import Derived.Test.YtodmelffkfbalaaGreatDoorRqA
import Derived.Test.YtodmelffkfbalaaGreatDoorPk14
open Go.Value renaming int->I,string->V,slice->Z,pointer->Q
open Go.IntKind renaming i64->J
open Go.Obj renaming cells->K
open Go.Ending renaming returned->Y
open Option renaming none->U,some->M
open Bool renaming false->F
open Go renaming World->X
set_option maxHeartbeats 2000000
set_option maxRecDepth 100000
open Go.Proofs.Tryz
namespace Go.Proofs.YtodmelffkfbalaaGreatDoor
open Go.RowKit
theorem Ek (c:UInt8)(s:ae):∃a b f,jV c s=.tuple #[V a,V b,.bool f]∧b.size<=s.size:=by
 unfold jV;split
 . exact⟨_,_,_,rfl,by show 0<=s.size;omega⟩
 . exact⟨_,_,_,rfl,by rw[ByteArray.size_extract];omega⟩
theorem Gk {c:UInt8}{s:ae}(h:aV c s.data.toList<s.data.toList.length):∃a b,jV c s=.tuple #[V a,V b,.bool true]∧a.data.toList=s.data.toList.take (aV c s.data.toList)∧b.data.toList=s.data.toList.drop (aV c s.data.toList+1):=by
 have d:s.data.toList.length=s.size:=by rw[cJ];rfl
 unfold jV;rw[if_neg (by omega)];refine⟨_,_,rfl,?_,?_⟩
 . rw[Lib.extract_data];simp
 . rw[Lib.extract_data,<-d,gF];rw[cO];omega
theorem Rg {l:ab}(c:∀b∈l,b≠32)(g:∀b∈l,er b.toNat=true):iU l=decide (¬(l.head?≠M 47∨9∈l)):=by
 have d:dO l=true:=sE.2 fun b a=>g b a;have f:mW l=decide (9∈l):=by
  unfold mW;rw[iM,List.any_eq_true,bR];constructor
  . rintro ⟨b,a,e⟩;simp at e;rcases e with e | e
    . exact absurd e (c b a)
    . exact e▸a
  . intro h;exact⟨9,h,rfl⟩
 unfold iU;rw[d,f,iM];simp
inductive AY (w:X)(g:Nat)(lp bd:Value)(t:ab)(e:Ending)(w':X):Prop
 | bad (c:Nat) (he:e=Y (I J (c:Int))) (hf:kP t=.inl c) (hB:Below w.heap.size w w')
 | ok (h:dg) (gh:Nat) (he:e=Y (I J 0)) (hf:kP t=.inr h) (hP:ct w' g lp (Q (M ⟨gh,0,U⟩)) F bd 0) (hH:fV w' (fun k=>w.heap.size<=k) gh h) (hT:am (fun k=>k=g) w w')
theorem Om (w:X)(g:Nat)(k bd:Value)(t:ae)(q:t.size<=2000)(l:t.data.toList.count 32≠2):
 Calls prog 222 #[Q (M ⟨g,0,U⟩),V t] w fun e w'=>AY w g k bd t.data.toList e w':=by
 obtain⟨a,b,f,m,r⟩:=Ek 32 t;obtain⟨s,u,v,n,_⟩:=Ek 32 b;have d:=rv t 32 w (by unfold maxLen;omega);have i:=fun W=>rv b 32 W (by unfold maxLen;omega);have j:=fun W=>Hk t 32 W;rw[m] at d;simp only[n] at i;have o:=Gb l;have c:(((t.data.toList.count 32:Nat):Int) != 2)=true:=by rw[di];omega
 generalize t.data.toList.count 32=x at j c;go_enter func222,ntmps222;go_wp2_with fail;refine d.mono ?_;rintro e y ⟨rfl,z,rfl⟩;go_wp2_with fail;refine(i _).mono ?_;rintro e B ⟨rfl,C,rfl⟩;go_wp2_with fail;refine(j _).mono ?_;rintro e D ⟨rfl,p⟩;subst p;go_wp2;go_ret;exact .bad 5 rfl o (iZ ⟨_,rfl⟩)
theorem yK {w b:X}{g:Nat}{d bd:Value}{m gt:ae}(j:ct b g d (Q U) F bd 0)(f:Below w.heap.size w b)(l:g<w.heap.size):
 ct ((b.alloc (K #[V m,V gt,I J 0,Z U 0 0,I J 0] 82)).setCell ⟨g,1,U⟩ (Q (M ⟨b.heap.size,0,U⟩))) g d (Q (M ⟨b.heap.size,0,U⟩)) F bd 0 ∧
 fV ((b.alloc (K #[V m,V gt,I J 0,Z U 0 0,I J 0] 82)).setCell ⟨g,1,U⟩ (Q (M ⟨b.heap.size,0,U⟩))) (fun k=>w.heap.size<=k) b.heap.size ⟨m.data.toList,gt.data.toList,0,[],0⟩ ∧
 am (fun k=>k=g) w ((b.alloc (K #[V m,V gt,I J 0,Z U 0 0,I J 0] 82)).setCell ⟨g,1,U⟩ (Q (M ⟨b.heap.size,0,U⟩))):=by
 have c:=f.size;have i:Below b.heap.size b (b.alloc (K #[V m,V gt,I J 0,Z U 0 0,I J 0] 82)):=(ar _ _).alloc (ak _) _;refine⟨(j.a i).jY _,?_,?_⟩
 . refine⟨U,0,?_,aK.y _ _ _ _,c,fun a e=>by cases e⟩;rw[pP _ _ _ _ (show b.heap.size≠g by omega),aX];rfl
 . exact(am.f (S:=fun k=>k=g) (f.trans (i.mono c))).a (am.r (fun k=>k=g) _ _ _ rfl) (fun _ e _=>e)
theorem Rh {w b:X}{g:Nat}{f bd:Value}{m gt:ae}(l:ct b g f (Q U) F bd 0)(j:Below w.heap.size w b)(n:g<w.heap.size):
 ct (((b.alloc (K #[V m,V gt,I J 0,Z U 0 0,I J 0] 82)).setCell ⟨g,1,U⟩ (Q (M ⟨b.heap.size,0,U⟩))).setCell ⟨b.heap.size,2,U⟩ (I J 1)) g f (Q (M ⟨b.heap.size,0,U⟩)) F bd 0 ∧
 fV (((b.alloc (K #[V m,V gt,I J 0,Z U 0 0,I J 0] 82)).setCell ⟨g,1,U⟩ (Q (M ⟨b.heap.size,0,U⟩))).setCell ⟨b.heap.size,2,U⟩ (I J 1)) (fun k=>w.heap.size<=k) b.heap.size ⟨m.data.toList,gt.data.toList,1,[],0⟩ ∧
 am (fun k=>k=g) w (((b.alloc (K #[V m,V gt,I J 0,Z U 0 0,I J 0] 82)).setCell ⟨g,1,U⟩ (Q (M ⟨b.heap.size,0,U⟩))).setCell ⟨b.heap.size,2,U⟩ (I J 1)):=by
 obtain⟨o,p,q⟩:=yK (m:=m) (gt:=gt) l j n;have c:=j.size;obtain⟨r,s,t,_⟩:=p;refine⟨o.f (am.r (fun k=>k=b.heap.size) _ _ _ rfl) (by omega),?_,?_⟩
 . refine⟨U,0,?_,aK.y _ _ _ _,c,fun a e=>by cases e⟩;have d:((b.alloc (K #[V m,V gt,I J 0,Z U 0 0,I J 0] 82)).setCell ⟨g,1,U⟩ (Q (M ⟨b.heap.size,0,U⟩))).heap[b.heap.size]? = M (K #[V m,V gt,I J 0,Z U 0 0,I J 0] 82 (0,0)):=by
    rw[pP _ _ _ _ (show b.heap.size≠g by omega),aX]
   rw[aP _ _ 2 _ _ _ d];rfl
 . refine q.a (am.r (fun k=>w.heap.size<=k) _ _ _ c) (fun i e u=>by omega)
theorem Ri (w:X)(g:Nat)(lp bd:Value)(t:ae)(hP:ct w g lp (Q U) F bd 0)(ht:t.size<=2000)(hv:∀b∈t.data.toList,er b.toNat=true)(hc:t.data.toList.count 32=2):
 Calls prog 222 #[Q (M ⟨g,0,U⟩),V t] w fun e w'=>AY w g lp bd t.data.toList e w':=by
 have hl:t.data.toList.length=t.size:=by rw[cJ];rfl
 obtain⟨c1,c2,_⟩:=F0 hc;have d:=FR hc;obtain⟨m,r,e1,hm,hr⟩:=Gk c1;rw[<-hr] at c2 d;obtain⟨gt,v,e2,hg,hv2⟩:=Gk c2;rw[<-hm,<-hg,<-hv2] at d;have hrl:r.size<=2000:=by
  have:r.data.toList.length=r.size:=by rw[cJ];rfl
  rw[hr,cO] at this;omega
 have hgl:gt.size<=2000:=by
  have h1:gt.data.toList.length=gt.size:=by rw[cJ];rfl
  have h2:r.data.toList.length=r.size:=by rw[cJ];rfl
  rw[hg,bU] at h1;omega
 have hml:m.size<=2000:=by
  have h1:m.data.toList.length=m.size:=by rw[cJ];rfl
  rw[hm,bU] at h1;omega
 have l:∀b∈gt.data.toList,b≠32∧er b.toNat=true:=fun b n=>by
  have h32:b≠32:=by rw[hg] at n;exact xw b n
  rw[hg] at n;have D:=List.mem_of_mem_take n;rw[hr] at D;exact⟨h32,hv b (List.mem_of_mem_drop D)⟩
 have hT:=Rg (fun b n=>(l b n).1) (fun b n=>(l b n).2);have y:=rv t 32 w (by unfold maxLen;omega);have z:=fun W=>rv r 32 W (by unfold maxLen;omega);have B:=fun W=>Hk t 32 W;rw[e1] at y;simp only[e2] at z;simp only[hc] at B;have o:=fun W=>yi m W (by unfold maxLen;omega);have p:=fun W=>BV gt W (by omega);have G:=fun W=>oS m W (by omega);have H:=fun W=>oS gt W (by omega);have X7:=hP.B;have L:(v.toList==[72,84,84,80,47,49,46,49])=decide (v.data.toList=[72,84,84,80,47,49,46,49]):=by rw[Lib.toList_data,iM];simp
 have N:(v.toList==[72,84,84,80,47,49,46,48])=decide (v.data.toList=[72,84,84,80,47,49,46,48]):=by rw[Lib.toList_data,iM];simp
 have S:(([72,84,84,80,47,49,46,49]:ab)==v.toList)=decide (v.data.toList=[72,84,84,80,47,49,46,49]):=by rw[Lib.toList_data,iM,cR,bR];exact eq_comm
 have T:(([72,84,84,80,47,49,46,48]:ab)==v.toList)=decide (v.data.toList=[72,84,84,80,47,49,46,48]):=by rw[Lib.toList_data,iM,cR,bR];exact eq_comm
 unfold A4 at d;simp only[hT] at p;cases i:fj m.data.toList
 . rw[i,if_pos rfl] at d;rw[i] at o;go_enter func222,ntmps222;go_wp2_with fail;refine y.mono ?_;rintro e w1 ⟨rfl,n1,rfl⟩;go_wp2_with fail;refine(z _).mono ?_;rintro e w2 ⟨rfl,n2,rfl⟩;go_wp2_with fail;refine(B _).mono ?_;rintro e w3 ⟨rfl,a⟩;subst a;go_wp2_with fail;refine(o _).mono ?_;rintro e w4 ⟨rfl,a⟩;subst a;go_wp2;go_ret;exact .bad 6 rfl d (iZ ⟨_,rfl⟩)
 . rw[i,if_neg (by simp)] at d;rw[i] at o;by_cases j:gt.data.toList.head?≠M 47∨9∈gt.data.toList
   . rw[if_pos j] at d;rw[ba (fun e=>e j)] at p;go_enter func222,ntmps222;go_wp2_with fail;refine y.mono ?_;rintro e w1 ⟨rfl,n1,rfl⟩;go_wp2_with fail;refine(z _).mono ?_;rintro e w2 ⟨rfl,n2,rfl⟩;go_wp2_with fail;refine(B _).mono ?_;rintro e w3 ⟨rfl,a⟩;subst a;go_wp2_with fail;refine(o _).mono ?_;rintro e w4 ⟨rfl,a⟩;subst a;go_wp2_with fail;refine(p _).mono ?_;rintro e w5 ⟨rfl,f⟩;have q:=(iZ ⟨_,rfl⟩).trans (f.mono (ak _));go_wp2;go_ret;exact .bad 5 rfl d q
   . rw[if_neg j] at d;rw[br j] at p;by_cases h11:v.data.toList=[72,84,84,80,47,49,46,49]
     . rw[if_pos h11] at d;rw[br h11] at L S;go_enter func222,ntmps222;go_wp2_with fail;refine y.mono ?_;rintro e w1 ⟨rfl,n1,rfl⟩;go_wp2_with fail;refine(z _).mono ?_;rintro e w2 ⟨rfl,n2,rfl⟩;go_wp2_with fail;refine(B _).mono ?_;rintro e w3 ⟨rfl,a⟩;subst a;go_wp2_with fail;refine(o _).mono ?_;rintro e w4 ⟨rfl,a⟩;subst a;go_wp2_with fail;refine(p _).mono ?_;rintro e w5 ⟨rfl,f⟩;have q:=(iZ ⟨_,rfl⟩).trans (f.mono (ak _));go_wp2_with fail;refine(G _).mono ?_;rintro e w6 ⟨rfl,s⟩;have uf:=au q s;go_wp2_with fail;refine(H _).mono ?_;rintro e u ⟨rfl,x⟩;have C:=au uf x;have c:=hP.a C;have f1:=(c.a ((ar _ u).alloc (ak _) (K #[V m,V gt,I J 0,Z U 0 0,I J 0] 82))).j 1;have k1:=(c.a ((ar _ u).alloc (ak _) (K #[V m,V gt,I J 0,Z U 0 0,I J 0] 82))).r;have k2:=(yK (m:=m) (gt:=gt) c C X7).1.r;go_wp2;go_ret;obtain⟨o1,o2,o3⟩:=Rh (m:=m) (gt:=gt) c C X7;exact .ok _ u.heap.size rfl d o1 o2 o3
     . rw[if_neg h11] at d;rw[ba h11] at L S;by_cases k:v.data.toList=[72,84,84,80,47,49,46,48]
       . rw[if_pos k] at d;rw[br k] at N T;go_enter func222,ntmps222;go_wp2_with fail;refine y.mono ?_;rintro e w1 ⟨rfl,n1,rfl⟩;go_wp2_with fail;refine(z _).mono ?_;rintro e w2 ⟨rfl,n2,rfl⟩;go_wp2_with fail;refine(B _).mono ?_;rintro e w3 ⟨rfl,a⟩;subst a;go_wp2_with fail;refine(o _).mono ?_;rintro e w4 ⟨rfl,a⟩;subst a;go_wp2_with fail;refine(p _).mono ?_;rintro e w5 ⟨rfl,f⟩;have q:=(iZ ⟨_,rfl⟩).trans (f.mono (ak _));go_wp2_with fail;refine(G _).mono ?_;rintro e w6 ⟨rfl,s⟩;have uf:=au q s;go_wp2_with fail;refine(H _).mono ?_;rintro e u ⟨rfl,x⟩;have C:=au uf x;have c:=hP.a C;have f1:=(c.a ((ar _ u).alloc (ak _) (K #[V m,V gt,I J 0,Z U 0 0,I J 0] 82))).j 1;have k1:=(c.a ((ar _ u).alloc (ak _) (K #[V m,V gt,I J 0,Z U 0 0,I J 0] 82))).r;go_wp2;go_ret;obtain⟨o1,o2,o3⟩:=yK (m:=m) (gt:=gt) c C X7;exact .ok _ u.heap.size rfl d o1 o2 o3
       . rw[if_neg k] at d;rw[ba k] at N T;go_enter func222,ntmps222;go_wp2_with fail;refine y.mono ?_;rintro e w1 ⟨rfl,n1,rfl⟩;go_wp2_with fail;refine(z _).mono ?_;rintro e w2 ⟨rfl,n2,rfl⟩;go_wp2_with fail;refine(B _).mono ?_;rintro e w3 ⟨rfl,a⟩;subst a;go_wp2_with fail;refine(o _).mono ?_;rintro e w4 ⟨rfl,a⟩;subst a;go_wp2_with fail;refine(p _).mono ?_;rintro e w5 ⟨rfl,f⟩;have q:=(iZ ⟨_,rfl⟩).trans (f.mono (ak _));go_wp2;go_ret;exact .bad 11 rfl d q
theorem Rj (w:X)(g:Nat)(a bd:Value)(t:ae)(f:ct w g a (Q U) F bd 0)(c:t.size<=2000)(i:∀b∈t.data.toList,er b.toNat=true):
 Calls prog 222 #[Q (M ⟨g,0,U⟩),V t] w fun e w'=>AY w g a bd t.data.toList e w':=by
 by_cases d:t.data.toList.count 32=2
 . exact Ri w g a bd t f c i d
 . exact Om w g a bd t c d
theorem OD (f:ab):∀(l:List (ab)) (n:Int) (c:Nat),lB f n l=.inl c->c≠0:=by intro l;induction l <;> grind [lB]
theorem OE {mi:Nat}{a C:List (ab)}{c:Nat}(e:oL mi a C=.inl c):c≠0:=by
 unfold oL pB at e;split at e
 . split at e
   . injection e with e;omega
   . split at e
     . injection e with e;omega
     . cases e
 . split at e
   . rename_i b;injection e with e;subst e;exact OD _ _ _ _ b
   . split at e
     . injection e with e;omega
     . cases e
theorem OI (h:dg):mr h=if 1<(aG gv (co h.a)).length∨(aG gv (co h.a)).length=0∧h.d=1 then .inl 13 else oL h.d (bX (aG gn (co h.a))) (bX (aG go (co h.a))):=by
 rw[OT,OK];have e:∀(b:ae),be b.data.toList=b.data.toList->dZ h.a b.data.toList=bX (aG b (co h.a)):=fun b f=>by
  have:=A1 (co h.a) b f;rw[Gd] at this;exact this
 have g:=e gv (by decide);have i:=e gn (by decide);have j:=e go (by decide);have a:dZ h.a qB=bX (aG gv (co h.a)):=g;have c:dZ h.a pz=bX (aG gn (co h.a)):=i;have d:dZ h.a pA=bX (aG go (co h.a)):=j;rw[a,c,d];have k:(bX (aG gv (co h.a))).length=(aG gv (co h.a)).length:=by simp[bX]
 rw[k]
inductive Tw (w:X)(S:Nat->Prop)(g gh:Nat)(lp bd:Value)(h:dg)(e:Ending)(w':X):Prop
 | bad (c:Nat) (hc:c≠0) (he:e=Y (I J (c:Int))) (hf:mr h=.inl c) (hP:ct w' g lp (Q (M ⟨gh,0,U⟩)) F bd 0) (hT:am (fun k=>S k∨k=g) w w')
 | ok (k:Int) (he:e=Y (I J 0)) (hf:mr h=.inr k) (hP:ct w' g lp (Q (M ⟨gh,0,U⟩)) true bd 0) (hH:fV w' S gh { h with c:=k }) (hT:am (fun k=>S k∨k=g) w w')
theorem pQ {w:X}{S:Nat->Prop}{a:Nat}{h:dg}(k:fV w S a h):w.cell? ⟨a,4,U⟩=M (I J h.c)∧w.frozen? ⟨a,4,U⟩=F:=by
 obtain⟨c,d,b,_⟩:=k;exact⟨aq w a 4 _ _ _ b,aN w a 4 _ _ b⟩
theorem wj {w c:X}{S:Nat->Prop}{g a:Nat}{f bd:Value}{h:dg}(n:Int)(b:Bool)(l:Below w.heap.size w c)(m:ct c g f (Q (M ⟨a,0,U⟩)) F bd 0)(o:fV c S a h)(i:¬S g):
 ct ((c.setCell ⟨a,4,U⟩ (I J n)).setCell ⟨g,2,U⟩ (.bool b)) g f (Q (M ⟨a,0,U⟩)) b bd 0∧fV ((c.setCell ⟨a,4,U⟩ (I J n)).setCell ⟨g,2,U⟩ (.bool b)) S a { h with c:=n }∧am (fun k=>S k∨k=g) w ((c.setCell ⟨a,4,U⟩ (I J n)).setCell ⟨g,2,U⟩ (.bool b)):=by
 obtain⟨p,j⟩:=o.r n;have d:=m.f j i;refine⟨d.kU b,p.j (am.r (fun k=>k=g) _ _ _ rfl) (fun k q e=>i (e▸q)),?_⟩;exact(am.f (S:=fun k=>S k∨k=g) l).a ((j.j (fun k e=>Or.inl e)).a (am.r (fun k=>S k∨k=g) _ _ _ (Or.inr rfl)) (fun _ e _=>e)) (fun _ e _=>e)
theorem S4 (w:X)(g t:Nat)(lp bd:Value)(S:Nat->Prop)(h:dg)(u:ct w g lp (Q (M ⟨t,0,U⟩)) F bd 0)(hH:fV w S t h)(N:¬S g)(hG:jo h):
 Calls prog 223 #[Q (M ⟨g,0,U⟩)] w fun e w'=>Tw w S g t lp bd h e w':=by
 have T:=aa hH;obtain⟨fo,gy,hr,ho,h1,h2⟩:=hH;have c1:=u.r;have c3:w.cell? ⟨t,3,U⟩=M (Z fo h.a.length gy):=aq w t 3 _ _ _ hr;have c2:w.cell? ⟨t,2,U⟩=M (I J (h.d:Int)):=aq w t 2 _ _ _ hr;have hs:∀p∈co h.a,p.1.size<=2000∧p.2.size<=2000:=fun p hp=>by
  obtain⟨f,hf,rfl⟩:=my.1 hp;have:=hG.c f hf;exact⟨by show f.1.toArray.size<=2000;rw[cz];omega,by show f.2.toArray.size<=2000;rw[cz];omega⟩
 have B:(co h.a).length=h.a.length:=uM _;have akp:=hG.a;have r:=fun W (v:Below w.heap.size w W)=>And.intro ((v.cell (bY w _ c1)).trans c1) (And.intro ((v.cell (bY w _ c2)).trans c2) ((v.cell (bY w _ c3)).trans c3));have s:=yv (co h.a) uy fo gy h.a.length w ho.a B (by omega) hs (by decide);rw[El] at s;have x:=fun W (v:Below w.heap.size w W)=>Oo t h.d (co h.a) fo gy h.a.length W (r W v).2.1 (r W v).2.2 (ho.a.a v) B (by omega) hs;have b:=OI h;generalize (aG gv (co h.a)).length=H at s b;have l:∀c,oL h.d (bX (aG gn (co h.a))) (bX (aG go (co h.a)))=.inl c->c≠0:=fun c e=>OE e;generalize oL h.d (bX (aG gn (co h.a))) (bX (aG go (co h.a)))=aaJ at x b l;unfold uy at s;by_cases hb:1<H∨H=0∧h.d=1
 . rw[if_pos hb] at b;by_cases hH1:1<H
   . have t1:decide ((H:Int) > 1)=true:=br (by omega);go_enter func223,ntmps223;go_wp2_with fail;refine s.mono ?_;rintro e i ⟨rfl,a⟩;have C:=(r i a).1;have D:=(r i a).2.1;go_wp2;go_ret;exact .bad 13 (by omega) rfl b (u.a a) (am.f a)
   . have t1:decide ((H:Int) > 1)=F:=ba (by omega);have t0:((H:Int)==0)=true:=cR.2 (by omega);have tm:((h.d:Int)==1)=true:=cR.2 (by omega);go_enter func223,ntmps223;go_wp2_with fail;refine s.mono ?_;rintro e i ⟨rfl,a⟩;have C:=(r i a).1;have D:=(r i a).2.1;go_wp2;go_ret;exact .bad 13 (by omega) rfl b (u.a a) (am.f a)
 . rw[if_neg hb] at b;have t1:decide ((H:Int) > 1)=F:=ba (by omega);have hz:((H:Int)==0)=F∨((H:Int)==0)=true∧((h.d:Int)==1)=F:=by
    by_cases h0:H=0
    . exact Or.inr ⟨cR.2 (by omega),aQ.2 (by omega)⟩
    . exact Or.inl (aQ.2 (by omega))
   cases aaJ with
   | inl c =>
     have tc:((c:Int)==0)=F:=aQ.2 (by have:=l c rfl;omega);have G:=l c rfl;unfold rZ at x;rcases hz with t0 | ⟨t0,tm⟩
     . go_enter func223,ntmps223;go_wp2_with fail;refine s.mono ?_;rintro e i ⟨rfl,a⟩;have C:=(r i a).1;have D:=(r i a).2.1;go_wp2_with fail;refine(x i a).mono ?_;rintro e w2 ⟨rfl,m⟩;have d:=au a m;have j:=(u.a d);have n:=aa (T.o.f d);have q:=aa d
       have q1:=j.r;have q2:=j.G;have qf:=j.j 2;have m4:=(pQ n.o).1;have mf:=(pQ n.o).2;go_wp2;go_ret;obtain⟨y,L,z⟩:=wj 0 F q.o j n.o N;exact .bad c G rfl b y z
     . go_enter func223,ntmps223;go_wp2_with fail;refine s.mono ?_;rintro e i ⟨rfl,a⟩;have C:=(r i a).1;have D:=(r i a).2.1;go_wp2_with fail;refine(x i a).mono ?_;rintro e w2 ⟨rfl,m⟩;have d:=au a m;have j:=(u.a d);have n:=aa (T.o.f d);have q:=aa d
       have q1:=j.r;have q2:=j.G;have qf:=j.j 2;have m4:=(pQ n.o).1;have mf:=(pQ n.o).2;go_wp2;go_ret;obtain⟨y,L,z⟩:=wj 0 F q.o j n.o N;exact .bad c G rfl b y z
   | inr k =>
     unfold rZ at x;rcases hz with t0 | ⟨t0,tm⟩
     . go_enter func223,ntmps223;go_wp2_with fail;refine s.mono ?_;rintro e i ⟨rfl,a⟩;have C:=(r i a).1;have D:=(r i a).2.1;go_wp2_with fail;refine(x i a).mono ?_;rintro e w2 ⟨rfl,m⟩;have d:=au a m;have j:=(u.a d);have n:=aa (T.o.f d);have q:=aa d
       have q1:=j.r;have q2:=j.G;have qf:=j.j 2;have m4:=(pQ n.o).1;have mf:=(pQ n.o).2;go_wp2;go_ret;obtain⟨y,L,z⟩:=wj k true q.o j n.o N;exact .ok k rfl b y L z
     . go_enter func223,ntmps223;go_wp2_with fail;refine s.mono ?_;rintro e i ⟨rfl,a⟩;have C:=(r i a).1;have D:=(r i a).2.1;go_wp2_with fail;refine(x i a).mono ?_;rintro e w2 ⟨rfl,m⟩;have d:=au a m;have j:=(u.a d);have n:=aa (T.o.f d);have q:=aa d
       have q1:=j.r;have q2:=j.G;have qf:=j.j 2;have m4:=(pQ n.o).1;have mf:=(pQ n.o).2;go_wp2;go_ret;obtain⟨y,L,z⟩:=wj k true q.o j n.o N;exact .ok k rfl b y L z
