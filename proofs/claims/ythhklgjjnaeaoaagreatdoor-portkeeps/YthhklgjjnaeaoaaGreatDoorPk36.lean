/- Small texts, one behind the other: RqFst, RqEnd, RqBusy, RqFlt. -/
import Derived.Test.YthhklgjjnaeaoaaGreatDoorRqA
import Derived.Test.YthhklgjjnaeaoaaGreatDoorPk6
open Go.Value renaming int->I,string->V,slice->Z,pointer->Q
open Go.IntKind renaming i64->J
open Go.Obj renaming cells->K
open Go.Ending renaming returned->Y
open Option renaming none->U,some->M
open Bool renaming false->F
open Go renaming World->X
set_option maxHeartbeats 2000000
set_option maxRecDepth 100000
open Go.Proofs.Tryz
namespace Go.Proofs.YthhklgjjnaeaoaaGreatDoor
open Go.RowKit
theorem GX (c:UInt8)(s:ay):∃a b f,Fd.cutV c s=.tuple #[V a,V b,.bool f]∧b.size<=s.size:=by
 unfold Fd.cutV;split
 . exact⟨_,_,_,rfl,by show 0<=s.size;omega⟩
 . exact⟨_,_,_,rfl,by rw[ByteArray.size_extract];omega⟩
theorem QO {c:UInt8}{s:ay}(h:Fd.at_ c s.data.toList<s.data.toList.length):∃a b,Fd.cutV c s=.tuple #[V a,V b,.bool true]∧a.data.toList=s.data.toList.take (Fd.at_ c s.data.toList)∧b.data.toList=s.data.toList.drop (Fd.at_ c s.data.toList+1):=by
 have d:s.data.toList.length=s.size:=by rw[aO];rfl
 unfold Fd.cutV;rw[if_neg (by omega)];refine⟨_,_,rfl,?_,?_⟩
 . rw[Lib.extract_data];simp
 . rw[Lib.extract_data,<-d,dJ];rw[bT];omega
theorem TV {l:av}(c:∀b∈l,b≠32)(g:∀b∈l,Ch.visible b.toNat=true):Rq.isTarget l=decide (¬(l.head?≠M 47∨9∈l)):=by
 have d:Ch.gV l=true:=dI.2 fun b a=>g b a;have f:Rq.blank l=decide (9∈l):=by
  unfold Rq.blank;rw[aH,List.any_eq_true,bP];constructor
  . rintro ⟨b,a,e⟩;simp at e;rcases e with e | e
    . exact absurd e (c b a)
    . exact e▸a
  . intro h;exact⟨9,h,rfl⟩
 unfold Rq.isTarget;rw[d,f,aH];simp
inductive O3 (w:X)(g:Nat)(lp bd:Value)(t:av)(e:Ending)(w':X):Prop
 | bad (c:Nat) (he:e=Y (I J (c:Int))) (hf:Rq.first t=.inl c) (hB:Below w.heap.size w w')
 | ok (h:Rq.Hd) (gh:Nat) (he:e=Y (I J 0)) (hf:Rq.first t=.inr h) (hP:iW w' g lp (Q (M ⟨gh,0,U⟩)) F bd 0) (hH:jr w' (fun k=>w.heap.size<=k) gh h) (hT:Turns (fun k=>k=g) w w')
theorem O4 (w:X)(g:Nat)(k bd:Value)(t:ay)(q:t.size<=2000)(l:t.data.toList.count 32≠2):
 Calls prog 184 #[Q (M ⟨g,0,U⟩),V t] w fun e w'=>O3 w g k bd t.data.toList e w':=by
 obtain⟨a,b,f,m,r⟩:=GX 32 t;obtain⟨s,u,v,n,_⟩:=GX 32 b;have d:=wQ t 32 w (by unfold maxLen;omega);have i:=fun W=>wQ b 32 W (by unfold maxLen;omega);have j:=fun W=>count_one t 32 W;rw[m] at d;simp only[n] at i;have o:=Rq.Ka l;have c:(((t.data.toList.count 32:Nat):Int) != 2)=true:=by rw[cK];omega
 generalize t.data.toList.count 32=x at j c;go_enter func184,ntmps184;go_wp2_with fail
 refine d.mono ?_;rintro e y ⟨rfl,z,rfl⟩;go_wp2_with fail
 refine(i _).mono ?_;rintro e B ⟨rfl,C,rfl⟩;go_wp2_with fail
 refine(j _).mono ?_;rintro e D ⟨rfl,p⟩;subst p;go_wp2;go_ret;exact .bad 5 rfl o (iZ ⟨_,rfl⟩)
theorem Aw {w b:X}{g:Nat}{d bd:Value}{m gt:ay}(j:iW b g d (Q U) F bd 0)(f:Below w.heap.size w b)(l:g<w.heap.size):
 iW ((b.alloc (K #[V m,V gt,I J 0,Z U 0 0,I J 0] 82)).setCell ⟨g,1,U⟩ (Q (M ⟨b.heap.size,0,U⟩))) g d (Q (M ⟨b.heap.size,0,U⟩)) F bd 0 ∧
 jr ((b.alloc (K #[V m,V gt,I J 0,Z U 0 0,I J 0] 82)).setCell ⟨g,1,U⟩ (Q (M ⟨b.heap.size,0,U⟩))) (fun k=>w.heap.size<=k) b.heap.size ⟨m.data.toList,gt.data.toList,0,[],0⟩ ∧
 Turns (fun k=>k=g) w ((b.alloc (K #[V m,V gt,I J 0,Z U 0 0,I J 0] 82)).setCell ⟨g,1,U⟩ (Q (M ⟨b.heap.size,0,U⟩))):=by
 have c:=f.size;have i:Below b.heap.size b (b.alloc (K #[V m,V gt,I J 0,Z U 0 0,I J 0] 82)):=(eY _ _).alloc (aM _) _;refine⟨(j.stay i).s1 _,?_,?_⟩
 . refine⟨U,0,?_,gH.nil _ _ _ _,c,fun a e=>by cases e⟩;rw[fK _ _ _ _ (show b.heap.size≠g by omega),eX];rfl
 . exact(Turns.of_below (S:=fun k=>k=g) (f.trans (i.mono c))).trans (Turns.setCell (fun k=>k=g) _ _ _ rfl) (fun _ e _=>e)
theorem TW {w b:X}{g:Nat}{f bd:Value}{m gt:ay}(l:iW b g f (Q U) F bd 0)(j:Below w.heap.size w b)(n:g<w.heap.size):
 iW (((b.alloc (K #[V m,V gt,I J 0,Z U 0 0,I J 0] 82)).setCell ⟨g,1,U⟩ (Q (M ⟨b.heap.size,0,U⟩))).setCell ⟨b.heap.size,2,U⟩ (I J 1)) g f (Q (M ⟨b.heap.size,0,U⟩)) F bd 0 ∧
 jr (((b.alloc (K #[V m,V gt,I J 0,Z U 0 0,I J 0] 82)).setCell ⟨g,1,U⟩ (Q (M ⟨b.heap.size,0,U⟩))).setCell ⟨b.heap.size,2,U⟩ (I J 1)) (fun k=>w.heap.size<=k) b.heap.size ⟨m.data.toList,gt.data.toList,1,[],0⟩ ∧
 Turns (fun k=>k=g) w (((b.alloc (K #[V m,V gt,I J 0,Z U 0 0,I J 0] 82)).setCell ⟨g,1,U⟩ (Q (M ⟨b.heap.size,0,U⟩))).setCell ⟨b.heap.size,2,U⟩ (I J 1)):=by
 obtain⟨o,p,q⟩:=Aw (m:=m) (gt:=gt) l j n;have c:=j.size;obtain⟨r,s,t,_⟩:=p;refine⟨o.turns (Turns.setCell (fun k=>k=b.heap.size) _ _ _ rfl) (by omega),?_,?_⟩
 . refine⟨U,0,?_,gH.nil _ _ _ _,c,fun a e=>by cases e⟩;have d:((b.alloc (K #[V m,V gt,I J 0,Z U 0 0,I J 0] 82)).setCell ⟨g,1,U⟩ (Q (M ⟨b.heap.size,0,U⟩))).heap[b.heap.size]? = M (K #[V m,V gt,I J 0,Z U 0 0,I J 0] 82 (0,0)):=by
    rw[fK _ _ _ _ (show b.heap.size≠g by omega),eX]
   rw[fu _ _ 2 _ _ _ d];rfl
 . refine q.trans (Turns.setCell (fun k=>w.heap.size<=k) _ _ _ c) (fun i e u=>by omega)
theorem TY (w:X)(g:Nat)(lp bd:Value)(t:ay)(hP:iW w g lp (Q U) F bd 0)(ht:t.size<=2000)(hv:∀b∈t.data.toList,Ch.visible b.toNat=true)(hc:t.data.toList.count 32=2):
 Calls prog 184 #[Q (M ⟨g,0,U⟩),V t] w fun e w'=>O3 w g lp bd t.data.toList e w':=by
 have hl:t.data.toList.length=t.size:=by rw[aO];rfl
 obtain⟨c1,c2,_⟩:=Rq.F7 hc;have d:=Rq.AX hc;obtain⟨m,r,e1,hm,hr⟩:=QO c1;rw[<-hr] at c2 d;obtain⟨gt,v,e2,T,hv2⟩:=QO c2;rw[<-hm,<-T,<-hv2] at d;have hrl:r.size<=2000:=by
  have:r.data.toList.length=r.size:=by rw[aO];rfl
  rw[hr,bT] at this;omega
 have hgl:gt.size<=2000:=by
  have h1:gt.data.toList.length=gt.size:=by rw[aO];rfl
  have h2:r.data.toList.length=r.size:=by rw[aO];rfl
  rw[T,bW] at h1;omega
 have hml:m.size<=2000:=by
  have h1:m.data.toList.length=m.size:=by rw[aO];rfl
  rw[hm,bW] at h1;omega
 have l:∀b∈gt.data.toList,b≠32∧Ch.visible b.toNat=true:=fun b n=>by
  have h32:b≠32:=by rw[T] at n;exact Rq.free_at b n
  rw[T] at n;have C:=List.mem_of_mem_take n;rw[hr] at C;exact⟨h32,hv b (List.mem_of_mem_drop C)⟩
 have hT:=TV (fun b n=>(l b n).1) (fun b n=>(l b n).2);have x:=wQ t 32 w (by unfold maxLen;omega);have y:=fun W=>wQ r 32 W (by unfold maxLen;omega);have z:=fun W=>count_one t 32 W;rw[e1] at x;simp only[e2] at y;simp only[hc] at z;have o:=fun W=>rA m W (by unfold maxLen;omega);have p:=fun W=>zM gt W (by omega);have D:=fun W=>kW m W (by omega);have G:=fun W=>kW gt W (by omega);have Zm:=hP.lt;have H:(v.toList==[72,84,84,80,47,49,46,49])=decide (v.data.toList=[72,84,84,80,47,49,46,49]):=by rw[Lib.toList_data,aH];simp
 have L:(v.toList==[72,84,84,80,47,49,46,48])=decide (v.data.toList=[72,84,84,80,47,49,46,48]):=by rw[Lib.toList_data,aH];simp
 have N:(([72,84,84,80,47,49,46,49]:av)==v.toList)=decide (v.data.toList=[72,84,84,80,47,49,46,49]):=by rw[Lib.toList_data,aH,aS,bP];exact eq_comm
 have S:(([72,84,84,80,47,49,46,48]:av)==v.toList)=decide (v.data.toList=[72,84,84,80,47,49,46,48]):=by rw[Lib.toList_data,aH,aS,bP];exact eq_comm
 unfold Rq.Ih at d;simp only[hT] at p;cases i:Ch.isToken m.data.toList
 . rw[i,if_pos rfl] at d;rw[i] at o;go_enter func184,ntmps184;go_wp2_with fail
   refine x.mono ?_;rintro e w1 ⟨rfl,n1,rfl⟩;go_wp2_with fail
   refine(y _).mono ?_;rintro e w2 ⟨rfl,n2,rfl⟩;go_wp2_with fail
   refine(z _).mono ?_;rintro e w3 ⟨rfl,a⟩;subst a;go_wp2_with fail
   refine(o _).mono ?_;rintro e w4 ⟨rfl,a⟩;subst a;go_wp2;go_ret;exact .bad 6 rfl d (iZ ⟨_,rfl⟩)
 . rw[i,if_neg (by simp)] at d;rw[i] at o;by_cases j:gt.data.toList.head?≠M 47∨9∈gt.data.toList
   . rw[if_pos j] at d;rw[aJ (fun e=>e j)] at p;go_enter func184,ntmps184;go_wp2_with fail
     refine x.mono ?_;rintro e w1 ⟨rfl,n1,rfl⟩;go_wp2_with fail
     refine(y _).mono ?_;rintro e w2 ⟨rfl,n2,rfl⟩;go_wp2_with fail
     refine(z _).mono ?_;rintro e w3 ⟨rfl,a⟩;subst a;go_wp2_with fail
     refine(o _).mono ?_;rintro e w4 ⟨rfl,a⟩;subst a;go_wp2_with fail
     refine(p _).mono ?_;rintro e w5 ⟨rfl,f⟩;have q:=(iZ ⟨_,rfl⟩).trans (f.mono (aM _));go_wp2;go_ret;exact .bad 5 rfl d q
   . rw[if_neg j] at d;rw[aI j] at p;by_cases h11:v.data.toList=[72,84,84,80,47,49,46,49]
     . rw[if_pos h11] at d;rw[aI h11] at H N;go_enter func184,ntmps184;go_wp2_with fail
       refine x.mono ?_;rintro e w1 ⟨rfl,n1,rfl⟩;go_wp2_with fail
       refine(y _).mono ?_;rintro e w2 ⟨rfl,n2,rfl⟩;go_wp2_with fail
       refine(z _).mono ?_;rintro e w3 ⟨rfl,a⟩;subst a;go_wp2_with fail
       refine(o _).mono ?_;rintro e w4 ⟨rfl,a⟩;subst a;go_wp2_with fail
       refine(p _).mono ?_;rintro e w5 ⟨rfl,f⟩;have q:=(iZ ⟨_,rfl⟩).trans (f.mono (aM _));go_wp2_with fail
       refine(D _).mono ?_;rintro e w6 ⟨rfl,s⟩;have xA:=then_ q s;go_wp2_with fail
       refine(G _).mono ?_;rintro e u ⟨rfl,ZN⟩;have B:=then_ xA ZN;have c:=hP.stay B;have f1:=(c.stay ((eY _ u).alloc (aM _) (K #[V m,V gt,I J 0,Z U 0 0,I J 0] 82))).fz 1;have k1:=(c.stay ((eY _ u).alloc (aM _) (K #[V m,V gt,I J 0,Z U 0 0,I J 0] 82))).c1;have k2:=(Aw (m:=m) (gt:=gt) c B Zm).1.c1;go_wp2;go_ret;obtain⟨o1,o2,o3⟩:=TW (m:=m) (gt:=gt) c B Zm;exact .ok _ u.heap.size rfl d o1 o2 o3
     . rw[if_neg h11] at d;rw[aJ h11] at H N;by_cases k:v.data.toList=[72,84,84,80,47,49,46,48]
       . rw[if_pos k] at d;rw[aI k] at L S;go_enter func184,ntmps184;go_wp2_with fail
         refine x.mono ?_;rintro e w1 ⟨rfl,n1,rfl⟩;go_wp2_with fail
         refine(y _).mono ?_;rintro e w2 ⟨rfl,n2,rfl⟩;go_wp2_with fail
         refine(z _).mono ?_;rintro e w3 ⟨rfl,a⟩;subst a;go_wp2_with fail
         refine(o _).mono ?_;rintro e w4 ⟨rfl,a⟩;subst a;go_wp2_with fail
         refine(p _).mono ?_;rintro e w5 ⟨rfl,f⟩;have q:=(iZ ⟨_,rfl⟩).trans (f.mono (aM _));go_wp2_with fail
         refine(D _).mono ?_;rintro e w6 ⟨rfl,s⟩;have xA:=then_ q s;go_wp2_with fail
         refine(G _).mono ?_;rintro e u ⟨rfl,ZN⟩;have B:=then_ xA ZN;have c:=hP.stay B;have f1:=(c.stay ((eY _ u).alloc (aM _) (K #[V m,V gt,I J 0,Z U 0 0,I J 0] 82))).fz 1;have k1:=(c.stay ((eY _ u).alloc (aM _) (K #[V m,V gt,I J 0,Z U 0 0,I J 0] 82))).c1;go_wp2;go_ret;obtain⟨o1,o2,o3⟩:=Aw (m:=m) (gt:=gt) c B Zm;exact .ok _ u.heap.size rfl d o1 o2 o3
       . rw[if_neg k] at d;rw[aJ k] at L S;go_enter func184,ntmps184;go_wp2_with fail
         refine x.mono ?_;rintro e w1 ⟨rfl,n1,rfl⟩;go_wp2_with fail
         refine(y _).mono ?_;rintro e w2 ⟨rfl,n2,rfl⟩;go_wp2_with fail
         refine(z _).mono ?_;rintro e w3 ⟨rfl,a⟩;subst a;go_wp2_with fail
         refine(o _).mono ?_;rintro e w4 ⟨rfl,a⟩;subst a;go_wp2_with fail
         refine(p _).mono ?_;rintro e w5 ⟨rfl,f⟩;have q:=(iZ ⟨_,rfl⟩).trans (f.mono (aM _));go_wp2;go_ret;exact .bad 11 rfl d q
theorem Ua (w:X)(g:Nat)(a bd:Value)(t:ay)(f:iW w g a (Q U) F bd 0)(c:t.size<=2000)(i:∀b∈t.data.toList,Ch.visible b.toNat=true):
 Calls prog 184 #[Q (M ⟨g,0,U⟩),V t] w fun e w'=>O3 w g a bd t.data.toList e w':=by
 by_cases d:t.data.toList.count 32=2
 . exact TY w g a bd t f c i d
 . exact O4 w g a bd t c d
theorem Rq.O7 (f:av):∀(l:List (av)) (n:Int) (c:Nat),Rq.sizes f n l=.inl c->c≠0:=by intro l;induction l <;> grind [Rq.sizes]
theorem Rq.O8 {mi:Nat}{a C:List (av)}{c:Nat}(e:Rq.ze mi a C=.inl c):c≠0:=by
 unfold Rq.ze Rq.rC at e;split at e
 . split at e
   . injection e with e;omega
   . split at e
     . injection e with e;omega
     . cases e
 . split at e
   . rename_i b;injection e with e;subst e;exact Rq.O7 _ _ _ _ b
   . split at e
     . injection e with e;omega
     . cases e
theorem Rq.Ud (h:Rq.Hd):Rq.len h=if 1<(Fd.vals lV (Rq.nu h.fields)).length∨(Fd.vals lV (Rq.nu h.fields)).length=0∧h.minor=1 then .inl 13 else Rq.ze h.minor (Rq.lists (Fd.vals lW (Rq.nu h.fields))) (Rq.lists (Fd.vals lX (Rq.nu h.fields))):=by
 rw[Rq.len_eq,Rq.V8];have e:∀(b:ay),Ch.lower b.data.toList=b.data.toList->Rq.vals h.fields b.data.toList=Rq.lists (Fd.vals b (Rq.nu h.fields)):=fun b f=>by
  have:=Rq.Dz (Rq.nu h.fields) b f;rw[Rq.Qg] at this;exact this
 have g:=e lV (by decide);have i:=e lW (by decide);have j:=e lX (by decide);have a:Rq.vals h.fields Rq.nHost=Rq.lists (Fd.vals lV (Rq.nu h.fields)):=g;have c:Rq.vals h.fields Rq.CY=Rq.lists (Fd.vals lW (Rq.nu h.fields)):=i;have d:Rq.vals h.fields Rq.CZ=Rq.lists (Fd.vals lX (Rq.nu h.fields)):=j;rw[a,c,d];have k:(Rq.lists (Fd.vals lV (Rq.nu h.fields))).length=(Fd.vals lV (Rq.nu h.fields)).length:=by simp[Rq.lists]
 rw[k]
inductive aeF (w:X)(S:Nat->Prop)(g gh:Nat)(lp bd:Value)(h:Rq.Hd)(e:Ending)(w':X):Prop
 | bad (c:Nat) (hc:c≠0) (he:e=Y (I J (c:Int))) (hf:Rq.len h=.inl c) (hP:iW w' g lp (Q (M ⟨gh,0,U⟩)) F bd 0) (hT:Turns (fun k=>S k∨k=g) w w')
 | ok (k:Int) (he:e=Y (I J 0)) (hf:Rq.len h=.inr k) (hP:iW w' g lp (Q (M ⟨gh,0,U⟩)) true bd 0) (hH:jr w' S gh { h with length:=k }) (hT:Turns (fun k=>S k∨k=g) w w')
theorem mD {w:X}{S:Nat->Prop}{a:Nat}{h:Rq.Hd}(k:jr w S a h):w.cell? ⟨a,4,U⟩=M (I J h.length)∧w.frozen? ⟨a,4,U⟩=F:=by
 obtain⟨c,d,b,_⟩:=k;exact⟨eZ w a 4 _ _ _ b,fq w a 4 _ _ b⟩
theorem Cz {w c:X}{S:Nat->Prop}{g a:Nat}{f bd:Value}{h:Rq.Hd}(n:Int)(b:Bool)(l:Below w.heap.size w c)(m:iW c g f (Q (M ⟨a,0,U⟩)) F bd 0)(o:jr c S a h)(i:¬S g):
 iW ((c.setCell ⟨a,4,U⟩ (I J n)).setCell ⟨g,2,U⟩ (.bool b)) g f (Q (M ⟨a,0,U⟩)) b bd 0∧jr ((c.setCell ⟨a,4,U⟩ (I J n)).setCell ⟨g,2,U⟩ (.bool b)) S a { h with length:=n }∧Turns (fun k=>S k∨k=g) w ((c.setCell ⟨a,4,U⟩ (I J n)).setCell ⟨g,2,U⟩ (.bool b)):=by
 obtain⟨p,j⟩:=o.len n;have d:=m.turns j i;refine⟨d.s2 b,p.turns (Turns.setCell (fun k=>k=g) _ _ _ rfl) (fun k q e=>i (e▸q)),?_⟩;exact(Turns.of_below (S:=fun k=>S k∨k=g) l).trans ((j.mono (fun k e=>Or.inl e)).trans (Turns.setCell (fun k=>S k∨k=g) _ _ _ (Or.inr rfl)) (fun _ e _=>e)) (fun _ e _=>e)
theorem ZV (w:X)(g t:Nat)(lp bd:Value)(S:Nat->Prop)(h:Rq.Hd)(u:iW w g lp (Q (M ⟨t,0,U⟩)) F bd 0)(hH:jr w S t h)(N:¬S g)(hG:Rq.oU h):
 Calls prog 185 #[Q (M ⟨g,0,U⟩)] w fun e w'=>aeF w S g t lp bd h e w':=by
 have T:=H9 hH;obtain⟨fo,fZ,hr,ho,h1,h2⟩:=hH;have c1:=u.c1;have c3:w.cell? ⟨t,3,U⟩=M (Z fo h.fields.length fZ):=eZ w t 3 _ _ _ hr;have c2:w.cell? ⟨t,2,U⟩=M (I J (h.minor:Int)):=eZ w t 2 _ _ _ hr;have hs:∀p∈Rq.nu h.fields,p.1.size<=2000∧p.2.size<=2000:=fun p hp=>by
  obtain⟨f,hf,rfl⟩:=aN.1 hp;have:=hG.fields f hf;exact⟨by show f.1.toArray.size<=2000;rw[bK];omega,by show f.2.toArray.size<=2000;rw[bK];omega⟩
 have B:(Rq.nu h.fields).length=h.fields.length:=Rq.qI _;have aiY:=hG.many;have r:=fun W (v:Below w.heap.size w W)=>And.intro ((v.cell (fH w _ c1)).trans c1) (And.intro ((v.cell (fH w _ c2)).trans c2) ((v.cell (fH w _ c3)).trans c3));have s:=xq (Rq.nu h.fields) LX fo fZ h.fields.length w ho.qE B (by omega) hs (by decide);rw[GY] at s;have x:=fun W (v:Below w.heap.size w W)=>O6 t h.minor (Rq.nu h.fields) fo fZ h.fields.length W (r W v).2.1 (r W v).2.2 (ho.qE.stay v) B (by omega) hs;have b:=Rq.Ud h;generalize (Fd.vals lV (Rq.nu h.fields)).length=H at s b;have l:∀c,Rq.ze h.minor (Rq.lists (Fd.vals lW (Rq.nu h.fields))) (Rq.lists (Fd.vals lX (Rq.nu h.fields)))=.inl c->c≠0:=fun c e=>Rq.O8 e;generalize Rq.ze h.minor (Rq.lists (Fd.vals lW (Rq.nu h.fields))) (Rq.lists (Fd.vals lX (Rq.nu h.fields)))=aaj at x b l;unfold LX at s;by_cases hb:1<H∨H=0∧h.minor=1
 . rw[if_pos hb] at b;by_cases hH1:1<H
   . have t1:decide ((H:Int) > 1)=true:=aI (by omega);go_enter func185,ntmps185;go_wp2_with fail
     refine s.mono ?_;rintro e i ⟨rfl,a⟩;have C:=(r i a).1;have D:=(r i a).2.1;go_wp2;go_ret;exact .bad 13 (by omega) rfl b (u.stay a) (Turns.of_below a)
   . have t1:decide ((H:Int) > 1)=F:=aJ (by omega);have t0:((H:Int)==0)=true:=aS.2 (by omega);have tm:((h.minor:Int)==1)=true:=aS.2 (by omega);go_enter func185,ntmps185;go_wp2_with fail
     refine s.mono ?_;rintro e i ⟨rfl,a⟩;have C:=(r i a).1;have D:=(r i a).2.1;go_wp2;go_ret;exact .bad 13 (by omega) rfl b (u.stay a) (Turns.of_below a)
 . rw[if_neg hb] at b;have t1:decide ((H:Int) > 1)=F:=aJ (by omega);have hz:((H:Int)==0)=F∨((H:Int)==0)=true∧((h.minor:Int)==1)=F:=by
    by_cases h0:H=0
    . exact Or.inr ⟨aS.2 (by omega),aR.2 (by omega)⟩
    . exact Or.inl (aR.2 (by omega))
   cases aaj with
   | inl c =>
     have tc:((c:Int)==0)=F:=aR.2 (by have:=l c rfl;omega);have G:=l c rfl;unfold Rq.lenVal at x;rcases hz with t0 | ⟨t0,tm⟩
     . go_enter func185,ntmps185;go_wp2_with fail
       refine s.mono ?_;rintro e i ⟨rfl,a⟩;have C:=(r i a).1;have D:=(r i a).2.1;go_wp2_with fail
       refine(x i a).mono ?_;rintro e w2 ⟨rfl,m⟩;have d:=then_ a m;have j:=(u.stay d);have n:=H9 (T.o.stay d);have q:=H9 d
       have q1:=j.c1;have q2:=j.c2;have qf:=j.fz 2;have m4:=(mD n.o).1;have mf:=(mD n.o).2;go_wp2;go_ret;obtain⟨y,L,z⟩:=Cz 0 F q.o j n.o N;exact .bad c G rfl b y z
     . go_enter func185,ntmps185;go_wp2_with fail
       refine s.mono ?_;rintro e i ⟨rfl,a⟩;have C:=(r i a).1;have D:=(r i a).2.1;go_wp2_with fail
       refine(x i a).mono ?_;rintro e w2 ⟨rfl,m⟩;have d:=then_ a m;have j:=(u.stay d);have n:=H9 (T.o.stay d);have q:=H9 d
       have q1:=j.c1;have q2:=j.c2;have qf:=j.fz 2;have m4:=(mD n.o).1;have mf:=(mD n.o).2;go_wp2;go_ret;obtain⟨y,L,z⟩:=Cz 0 F q.o j n.o N;exact .bad c G rfl b y z
   | inr k =>
     unfold Rq.lenVal at x;rcases hz with t0 | ⟨t0,tm⟩
     . go_enter func185,ntmps185;go_wp2_with fail
       refine s.mono ?_;rintro e i ⟨rfl,a⟩;have C:=(r i a).1;have D:=(r i a).2.1;go_wp2_with fail
       refine(x i a).mono ?_;rintro e w2 ⟨rfl,m⟩;have d:=then_ a m;have j:=(u.stay d);have n:=H9 (T.o.stay d);have q:=H9 d
       have q1:=j.c1;have q2:=j.c2;have qf:=j.fz 2;have m4:=(mD n.o).1;have mf:=(mD n.o).2;go_wp2;go_ret;obtain⟨y,L,z⟩:=Cz k true q.o j n.o N;exact .ok k rfl b y L z
     . go_enter func185,ntmps185;go_wp2_with fail
       refine s.mono ?_;rintro e i ⟨rfl,a⟩;have C:=(r i a).1;have D:=(r i a).2.1;go_wp2_with fail
       refine(x i a).mono ?_;rintro e w2 ⟨rfl,m⟩;have d:=then_ a m;have j:=(u.stay d);have n:=H9 (T.o.stay d);have q:=H9 d
       have q1:=j.c1;have q2:=j.c2;have qf:=j.fz 2;have m4:=(mD n.o).1;have mf:=(mD n.o).2;go_wp2;go_ret;obtain⟨y,L,z⟩:=Cz k true q.o j n.o N;exact .ok k rfl b y L z
def Rq.uI (tk tg:Bool)(acr nb nf s c h:Nat):Nat :=
 if tk=F then 6 else if tg=F then 5 else if 200<acr∨4000<nb then 4 else if 15<nf then 8 else if 0<s∨0<c then 12 else if h≠1 then 13 else 0
theorem G8 (w:X)(m t first:ay)(mi ln:Int)(l:au)(fo bo:ak)(fZ nf nb fU:Nat)(hl:ji w fo fZ nf (gG l))(T:l.length=nf)(hN:nf<=1000000)(hs:∀p∈l,p.1.size<=2000∧p.2.size<=2000)(hm:m.size<=1000000)(ht:t.size<=1000000):
 Calls prog 208 #[.agg #[V m,V t,I J mi,Z fo nf fZ,I J ln],V first,Z bo nb fU] w fun e w'=>e=Y (I J (Rq.uI (Ch.isToken m.data.toList) (Rq.isTarget t.data.toList) first.size nb nf (Fd.vals lW l).length (Fd.vals lX l).length (Fd.vals lV l).length:Int))∧Below w.heap.size w w':=by
 have G:Below w.heap.size w (w.alloc (K #[V m,V t,I J mi,Z fo nf fZ,I J ln] 82)):=(eY _ _).alloc (aM _) _;have hV:∀W,Below (w.alloc (K #[V m,V t,I J mi,Z fo nf fZ,I J ln] 82)).heap.size (w.alloc (K #[V m,V t,I J mi,Z fo nf fZ,I J ln] 82)) W->ji W fo fZ nf (gG l):=fun W y=>(hl.stay G).stay y;have z:=H9 (fun W=>rA m W (by unfold maxLen;omega));have C:=H9 (fun W=>zM t W ht);have N:=H9 (fun W (y:Below (w.alloc (K #[V m,V t,I J mi,Z fo nf fZ,I J ln] 82)).heap.size (w.alloc (K #[V m,V t,I J mi,Z fo nf fZ,I J ln] 82)) W)=>xq l LZ fo fZ nf W (hV W y) T hN hs (by decide));have r:=H9 (fun W (y:Below (w.alloc (K #[V m,V t,I J mi,Z fo nf fZ,I J ln] 82)).heap.size (w.alloc (K #[V m,V t,I J mi,Z fo nf fZ,I J ln] 82)) W)=>xq l L6 fo fZ nf W (hV W y) T hN hs (by decide));have B:=H9 (fun W (y:Below (w.alloc (K #[V m,V t,I J mi,Z fo nf fZ,I J ln] 82)).heap.size (w.alloc (K #[V m,V t,I J mi,Z fo nf fZ,I J ln] 82)) W)=>xq l LX fo fZ nf W (hV W y) T hN hs (by decide));simp only[GZ,G5,GY] at N r B;have H:(w.alloc (K #[V m,V t,I J mi,Z fo nf fZ,I J ln] 82)).cell? ⟨w.heap.size,3,U⟩=M (Z fo nf fZ):=by rw[World.cell?_alloc_mark];rfl
 have q:Hid (∀W,Below (w.alloc (K #[V m,V t,I J mi,Z fo nf fZ,I J ln] 82)).heap.size (w.alloc (K #[V m,V t,I J mi,Z fo nf fZ,I J ln] 82)) W->W.cell? ⟨w.heap.size,3,U⟩=M (Z fo nf fZ)):=fun W y=>(y.cell (fH _ _ H)).trans H;have g:=H9 G;have Ky:Hid (Rq.uI (Ch.isToken m.data.toList) (Rq.isTarget t.data.toList) first.size nb nf (Fd.vals lW l).length (Fd.vals lX l).length (Fd.vals lV l).length=if Ch.isToken m.data.toList=F then 6 else if Rq.isTarget t.data.toList=F then 5 else if 200<first.size∨4000<nb then 4 else if 15<nf then 8 else if 0<(Fd.vals lW l).length∨0<(Fd.vals lX l).length then 12 else if (Fd.vals lV l).length≠1 then 13 else 0):=rfl;generalize Rq.uI (Ch.isToken m.data.toList) (Rq.isTarget t.data.toList) first.size nb nf (Fd.vals lW l).length (Fd.vals lX l).length (Fd.vals lV l).length=aaj at Ky ⊢;generalize (Fd.vals lW l).length=vs at *;generalize (Fd.vals lX l).length=vc at *;generalize (Fd.vals lV l).length=vh at *;generalize Ch.isToken m.data.toList=tk at *;generalize Rq.isTarget t.data.toList=tg at *;simp only[LZ] at N;simp only[L6] at r;simp only[LX] at B;have c:=Ky.o;clear G hV H hl hs T Ky;cases tk
 . rw[if_pos rfl] at c;have j:=H9 c;clear c;go_enter func208,ntmps208;go_wp2_with fail
   refine(z.o _).mono ?_;rintro e D ⟨rfl,k⟩;subst k;go_wp2;go_ret;exact⟨lH (by rw[j.o];rfl),g.o⟩
 . rw[if_neg (by simp)] at c;cases tg
   . rw[if_pos rfl] at c;have j:=H9 c;clear c;go_enter func208,ntmps208;go_wp2_with fail
     refine(z.o _).mono ?_;rintro e D ⟨rfl,k⟩;subst k;go_wp2_with fail
     refine(C.o _).mono ?_;rintro e i ⟨rfl,a⟩;have b:=H9 a;have s:=q.o i a;clear a;go_wp2;go_ret;exact⟨lH (by rw[j.o];rfl),g.o.trans (b.o.mono (by simp))⟩
   . rw[if_neg (by simp)] at c;by_cases h1:200<first.size
     . have u1:decide ((first.size:Int) > 200)=true:=aI (by omega);rw[if_pos (Or.inl h1)] at c;have j:=H9 c;clear c;go_enter func208,ntmps208;go_wp2_with fail
       refine(z.o _).mono ?_;rintro e D ⟨rfl,k⟩;subst k;go_wp2_with fail
       refine(C.o _).mono ?_;rintro e i ⟨rfl,a⟩;have b:=H9 a;have s:=q.o i a;clear a;go_wp2;go_ret;exact⟨lH (by rw[j.o];rfl),g.o.trans (b.o.mono (by simp))⟩
     . have u1:decide ((first.size:Int) > 200)=F:=aJ (by omega);by_cases h2:4000<nb
       . have u2:decide ((nb:Int) > 4000)=true:=aI (by omega);rw[if_pos (Or.inr h2)] at c;have j:=H9 c;clear c;go_enter func208,ntmps208;go_wp2_with fail
         refine(z.o _).mono ?_;rintro e D ⟨rfl,k⟩;subst k;go_wp2_with fail
         refine(C.o _).mono ?_;rintro e i ⟨rfl,a⟩;have b:=H9 a;have s:=q.o i a;clear a;go_wp2;go_ret;exact⟨lH (by rw[j.o];rfl),g.o.trans (b.o.mono (by simp))⟩
       . have u2:decide ((nb:Int) > 4000)=F:=aJ (by omega);rw[if_neg (fun e=>by rcases e with e | e;exact h1 e;exact h2 e)] at c;by_cases h3:15<nf
         . have u3:decide ((nf:Int) > 15)=true:=aI (by omega);rw[if_pos h3] at c;have j:=H9 c;clear c;go_enter func208,ntmps208;go_wp2_with fail
           refine(z.o _).mono ?_;rintro e D ⟨rfl,k⟩;subst k;go_wp2_with fail
           refine(C.o _).mono ?_;rintro e i ⟨rfl,a⟩;have b:=H9 a;have s:=q.o i a;clear a;go_wp2;go_ret;exact⟨lH (by rw[j.o];rfl),g.o.trans (b.o.mono (by simp))⟩
         . have u3:decide ((nf:Int) > 15)=F:=aJ (by omega);rw[if_neg h3] at c;by_cases h4:0<vs
           . have u4:decide ((vs:Int) > 0)=true:=aI (by omega);rw[if_pos (Or.inl h4)] at c;have j:=H9 c;clear c;go_enter func208,ntmps208;go_wp2_with fail
             refine(z.o _).mono ?_;rintro e D ⟨rfl,k⟩;subst k;go_wp2_with fail
             refine(C.o _).mono ?_;rintro e i ⟨rfl,a⟩;have b:=H9 a;have s:=q.o i a;clear a;go_wp2_with fail
             refine(N.o i b.o).mono ?_;rintro e v ⟨rfl,f⟩;have d:=H9 (then_ b.o f);have S:=q.o v d.o;clear f s;go_wp2;go_ret;exact⟨lH (by rw[j.o];rfl),g.o.trans (d.o.mono (by simp))⟩
           . have u4:decide ((vs:Int) > 0)=F:=aJ (by omega);by_cases h5:0<vc
             . have u5:decide ((vc:Int) > 0)=true:=aI (by omega);rw[if_pos (Or.inr h5)] at c;have j:=H9 c;clear c;go_enter func208,ntmps208;go_wp2_with fail
               refine(z.o _).mono ?_;rintro e D ⟨rfl,k⟩;subst k;go_wp2_with fail
               refine(C.o _).mono ?_;rintro e i ⟨rfl,a⟩;have b:=H9 a;have s:=q.o i a;clear a;go_wp2_with fail
               refine(N.o i b.o).mono ?_;rintro e v ⟨rfl,f⟩;have d:=H9 (then_ b.o f);have S:=q.o v d.o;clear f s;go_wp2_with fail
               refine(r.o v d.o).mono ?_;rintro e L ⟨rfl,n⟩;have x:=H9 (then_ d.o n);have r3:=q.o L x.o;clear n S;go_wp2;go_ret;exact⟨lH (by rw[j.o];rfl),g.o.trans (x.o.mono (by simp))⟩
             . have u5:decide ((vc:Int) > 0)=F:=aJ (by omega);rw[if_neg (fun e=>by rcases e with e | e;exact h4 e;exact h5 e)] at c;by_cases h6:vh=1
               . have u6:((vh:Int) != 1)=F:=by rw[bne_eq_false_iff_eq];omega
                 rw[if_neg (fun e=>e h6)] at c;have j:=H9 c;clear c h6;go_enter func208,ntmps208;go_wp2_with fail
                 refine(z.o _).mono ?_;rintro e D ⟨rfl,k⟩;subst k;go_wp2_with fail
                 refine(C.o _).mono ?_;rintro e i ⟨rfl,a⟩;have b:=H9 a;have s:=q.o i a;clear a;go_wp2_with fail
                 refine(N.o i b.o).mono ?_;rintro e v ⟨rfl,f⟩;have d:=H9 (then_ b.o f);have S:=q.o v d.o;clear f s;go_wp2_with fail
                 refine(r.o v d.o).mono ?_;rintro e L ⟨rfl,n⟩;have x:=H9 (then_ d.o n);have r3:=q.o L x.o;clear n S;go_wp2_with fail
                 refine(B.o L x.o).mono ?_;rintro e w5 ⟨rfl,u⟩;have nX:=H9 (then_ x.o u);clear u r3;go_wp2;go_ret;exact⟨lH (by rw[j.o];rfl),g.o.trans (nX.o.mono (by simp))⟩
               . have u6:((vh:Int) != 1)=true:=by rw[cK];omega
                 rw[if_pos h6] at c;have j:=H9 c;clear c h6;go_enter func208,ntmps208;go_wp2_with fail
                 refine(z.o _).mono ?_;rintro e D ⟨rfl,k⟩;subst k;go_wp2_with fail
                 refine(C.o _).mono ?_;rintro e i ⟨rfl,a⟩;have b:=H9 a;have s:=q.o i a;clear a;go_wp2_with fail
                 refine(N.o i b.o).mono ?_;rintro e v ⟨rfl,f⟩;have d:=H9 (then_ b.o f);have S:=q.o v d.o;clear f s;go_wp2_with fail
                 refine(r.o v d.o).mono ?_;rintro e L ⟨rfl,n⟩;have x:=H9 (then_ d.o n);have r3:=q.o L x.o;clear n S;go_wp2_with fail
                 refine(B.o L x.o).mono ?_;rintro e w5 ⟨rfl,u⟩;have nX:=H9 (then_ x.o u);clear u r3;go_wp2;go_ret;exact⟨lH (by rw[j.o];rfl),g.o.trans (nX.o.mono (by simp))⟩
end Go.Proofs.YthhklgjjnaeaoaaGreatDoor