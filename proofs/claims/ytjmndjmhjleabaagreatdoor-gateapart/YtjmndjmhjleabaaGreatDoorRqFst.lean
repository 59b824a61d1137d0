/- Package request, walked: a head's first line. -/
import Derived.Test.YtjmndjmhjleabaaGreatDoorRqA
import Derived.Test.YtjmndjmhjleabaaGreatDoorPk6
open Go.Value renaming int->I,string->V,slice->Z,pointer->Q
open Go.IntKind renaming i64->J
open Go.Obj renaming cells->K
open Option renaming none->U,some->M
open Bool renaming false->F
open Go renaming World->X
set_option maxHeartbeats 2000000
set_option maxRecDepth 100000
open Go.Proofs.Tryz
namespace Go.Proofs.YtjmndjmhjleabaaGreatDoor
open Go.RowKit
theorem IQ (c:UInt8)(s:av):∃a b f,Fd.cutV c s=.tuple #[V a,V b,.bool f]∧b.size<=s.size:=by
 unfold Fd.cutV;split
 . exact⟨_,_,_,rfl,by show 0<=s.size;omega⟩
 . exact⟨_,_,_,rfl,by rw[ByteArray.size_extract];omega⟩
theorem QY {c:UInt8}{s:av}(h:Fd.at_ c s.data.toList<s.data.toList.length):∃a b,Fd.cutV c s=.tuple #[V a,V b,.bool true]∧a.data.toList=s.data.toList.take (Fd.at_ c s.data.toList)∧b.data.toList=s.data.toList.drop (Fd.at_ c s.data.toList+1):=by
 have d:s.data.toList.length=s.size:=by rw[aN];rfl
 unfold Fd.cutV;rw[if_neg (by omega)];refine⟨_,_,rfl,?_,?_⟩
 . rw[Lib.extract_data];simp
 . rw[Lib.extract_data,<-d,dN];rw[bU];omega
theorem Uc {l:au}(c:∀b∈l,b≠32)(g:∀b∈l,Ch.visible b.toNat=true):Rq.isTarget l=decide (¬(l.head?≠M 47∨9∈l)):=by
 have d:Ch.iw l=true:=dM.2 fun b a=>g b a;have f:Rq.blank l=decide (9∈l):=by
  unfold Rq.blank;rw[aG,List.any_eq_true,bQ];constructor
  . rintro ⟨b,a,e⟩;simp at e;rcases e with e | e
    . exact absurd e (c b a)
    . exact e▸a
  . intro h;exact⟨9,h,rfl⟩
 unfold Rq.isTarget;rw[d,f,aG];simp
inductive Po (w:X)(g:Nat)(lp bd:Value)(t:au)(e:Ending)(w':X):Prop
 | bad (c:Nat) (he:e=.returned (I J (c:Int))) (hf:Rq.first t=.inl c) (hB:Below w.heap.size w w')
 | ok (h:Rq.Hd) (gh:Nat) (he:e=.returned (I J 0)) (hf:Rq.first t=.inr h) (hP:jf w' g lp (Q (M ⟨gh,0,U⟩)) F bd 0) (hH:jF w' (fun k=>w.heap.size<=k) gh h) (hT:Turns (fun k=>k=g) w w')
theorem Pp (w:X)(g:Nat)(n bd:Value)(t:av)(s:t.size<=2000)(d:t.data.toList.count 32≠2):
 Calls prog 140 #[Q (M ⟨g,0,U⟩),V t] w fun e w'=>Po w g n bd t.data.toList e w':=by
 obtain⟨a,b,f,i,p⟩:=IQ 32 t;obtain⟨u,v,x,j,_⟩:=IQ 32 b;have k:=H9 (xE t 32 w (by unfold maxLen;omega));have l:=H9 (fun W=>xE b 32 W (by unfold maxLen;omega));have m:=H9 (fun W=>count_one t 32 W);rw[i] at k;simp only[j] at l;have q:=H9 (Rq.KM d);have c:(((t.data.toList.count 32:Nat):Int) != 2)=true:=by rw[cO];omega
 generalize t.data.toList.count 32=y at m c;clear d i j p;go_enter func140,ntmps140;go_wp2_with fail
 refine k.o.mono ?_;rintro e z ⟨rfl,B,rfl⟩;go_wp2_with fail
 refine(l.o _).mono ?_;rintro e C ⟨rfl,D,rfl⟩;go_wp2_with fail
 refine(m.o _).mono ?_;rintro e G ⟨rfl,r⟩;subst r;go_wp2;go_ret;exact .bad 5 rfl q.o (iT ⟨_,rfl⟩)
theorem Bo {w b:X}{g:Nat}{d bd:Value}{m gt:av}(j:jf b g d (Q U) F bd 0)(f:Below w.heap.size w b)(l:g<w.heap.size):
 jf ((b.alloc (K #[V m,V gt,I J 0,Z U 0 0,I J 0] 68)).setCell ⟨g,1,U⟩ (Q (M ⟨b.heap.size,0,U⟩))) g d (Q (M ⟨b.heap.size,0,U⟩)) F bd 0 ∧
 jF ((b.alloc (K #[V m,V gt,I J 0,Z U 0 0,I J 0] 68)).setCell ⟨g,1,U⟩ (Q (M ⟨b.heap.size,0,U⟩))) (fun k=>w.heap.size<=k) b.heap.size ⟨m.data.toList,gt.data.toList,0,[],0⟩ ∧
 Turns (fun k=>k=g) w ((b.alloc (K #[V m,V gt,I J 0,Z U 0 0,I J 0] 68)).setCell ⟨g,1,U⟩ (Q (M ⟨b.heap.size,0,U⟩))):=by
 have c:=f.size;have i:Below b.heap.size b (b.alloc (K #[V m,V gt,I J 0,Z U 0 0,I J 0] 68)):=(fI _ _).alloc (aL _) _;refine⟨(j.stay i).s1 _,?_,?_⟩
 . refine⟨U,0,?_,gU.nil _ _ _ _,c,fun a e=>by cases e⟩;rw[gB _ _ _ _ (show b.heap.size≠g by omega),fH];rfl
 . exact(Turns.of_below (S:=fun k=>k=g) (f.trans (i.mono c))).trans (Turns.setCell (fun k=>k=g) _ _ _ rfl) (fun _ e _=>e)
theorem Ud {w b:X}{g:Nat}{f bd:Value}{m gt:av}(l:jf b g f (Q U) F bd 0)(j:Below w.heap.size w b)(n:g<w.heap.size):
 jf (((b.alloc (K #[V m,V gt,I J 0,Z U 0 0,I J 0] 68)).setCell ⟨g,1,U⟩ (Q (M ⟨b.heap.size,0,U⟩))).setCell ⟨b.heap.size,2,U⟩ (I J 1)) g f (Q (M ⟨b.heap.size,0,U⟩)) F bd 0 ∧
 jF (((b.alloc (K #[V m,V gt,I J 0,Z U 0 0,I J 0] 68)).setCell ⟨g,1,U⟩ (Q (M ⟨b.heap.size,0,U⟩))).setCell ⟨b.heap.size,2,U⟩ (I J 1)) (fun k=>w.heap.size<=k) b.heap.size ⟨m.data.toList,gt.data.toList,1,[],0⟩ ∧
 Turns (fun k=>k=g) w (((b.alloc (K #[V m,V gt,I J 0,Z U 0 0,I J 0] 68)).setCell ⟨g,1,U⟩ (Q (M ⟨b.heap.size,0,U⟩))).setCell ⟨b.heap.size,2,U⟩ (I J 1)):=by
 obtain⟨o,p,q⟩:=Bo (m:=m) (gt:=gt) l j n;have c:=j.size;obtain⟨r,s,t,_⟩:=p;refine⟨o.turns (Turns.setCell (fun k=>k=b.heap.size) _ _ _ rfl) (by omega),?_,?_⟩
 . refine⟨U,0,?_,gU.nil _ _ _ _,c,fun a e=>by cases e⟩;have d:((b.alloc (K #[V m,V gt,I J 0,Z U 0 0,I J 0] 68)).setCell ⟨g,1,U⟩ (Q (M ⟨b.heap.size,0,U⟩))).heap[b.heap.size]? = M (K #[V m,V gt,I J 0,Z U 0 0,I J 0] 68 (0,0)):=by
    rw[gB _ _ _ _ (show b.heap.size≠g by omega),fH]
   rw[fM _ _ 2 _ _ _ d];rfl
 . refine q.trans (Turns.setCell (fun k=>w.heap.size<=k) _ _ _ c) (fun i e u=>by omega)
theorem Ue (w:X)(g:Nat)(lp bd:Value)(t:av)(hP:jf w g lp (Q U) F bd 0)(ht:t.size<=2000)(hv:∀b∈t.data.toList,Ch.visible b.toNat=true)(hc:t.data.toList.count 32=2):
 Calls prog 140 #[Q (M ⟨g,0,U⟩),V t] w fun e w'=>Po w g lp bd t.data.toList e w':=by
 have hl:t.data.toList.length=t.size:=by rw[aN];rfl
 obtain⟨c1,c2,_⟩:=Rq.Hl hc;have c:=Rq.BG hc;obtain⟨m,r,e1,hm,hr⟩:=QY c1;rw[<-hr] at c2 c;obtain⟨gt,v,e2,H,L⟩:=QY c2;rw[<-hm,<-H,<-L] at c;have hrl:r.size<=2000:=by
  have:r.data.toList.length=r.size:=by rw[aN];rfl
  rw[hr,bU] at this;omega
 have hgl:gt.size<=2000:=by
  have h1:gt.data.toList.length=gt.size:=by rw[aN];rfl
  have h2:r.data.toList.length=r.size:=by rw[aN];rfl
  rw[H,bX] at h1;omega
 have hml:m.size<=2000:=by
  have h1:m.data.toList.length=m.size:=by rw[aN];rfl
  rw[hm,bX] at h1;omega
 have l:∀b∈gt.data.toList,b≠32∧Ch.visible b.toNat=true:=fun b s=>by
  have h32:b≠32:=by rw[H] at s;exact Rq.free_at b s
  rw[H] at s;have N:=List.mem_of_mem_take s;rw[hr] at N;exact⟨h32,hv b (List.mem_of_mem_drop N)⟩
 have hT:=Uc (fun b s=>(l b s).1) (fun b s=>(l b s).2);have B:=H9 (xE t 32 w (by unfold maxLen;omega));have C:=H9 (fun W=>xE r 32 W (by unfold maxLen;omega));have D:=H9 (fun W=>count_one t 32 W);rw[e1] at B;simp only[e2] at C;simp only[hc] at D;have x:=H9 (fun W=>wm m W (by unfold maxLen;omega));have f:=H9 (fun W=>JU gt W (by omega));have M7:=H9 (fun W=>lK m W (by omega));have O:=H9 (fun W=>lK gt W (by omega));have HP:=H9 hP;have Zw:=H9 hP.lt;have P:(v.toList==[72,84,84,80,47,49,46,49])=decide (v.data.toList=[72,84,84,80,47,49,46,49]):=by rw[Lib.toList_data,aG];simp
 have y:(v.toList==[72,84,84,80,47,49,46,48])=decide (v.data.toList=[72,84,84,80,47,49,46,48]):=by rw[Lib.toList_data,aG];simp
 have S:(([72,84,84,80,47,49,46,49]:au)==v.toList)=decide (v.data.toList=[72,84,84,80,47,49,46,49]):=by rw[Lib.toList_data,aG,aS,bQ];exact eq_comm
 have XM:(([72,84,84,80,47,49,46,48]:au)==v.toList)=decide (v.data.toList=[72,84,84,80,47,49,46,48]):=by rw[Lib.toList_data,aG,aS,bQ];exact eq_comm
 unfold Rq.Jd at c;simp only[hT] at f;clear hm hr H L l hv hT c1 c2 e1 e2 hl hc hP ht hrl hgl hml;cases i:Ch.isToken m.data.toList
 . rw[i,if_pos rfl] at c;rw[i] at x;have p:=H9 c;clear c i;go_enter func140,ntmps140;go_wp2_with fail
   refine B.o.mono ?_;rintro e w1 ⟨rfl,n1,rfl⟩;go_wp2_with fail
   refine(C.o _).mono ?_;rintro e w2 ⟨rfl,n2,rfl⟩;go_wp2_with fail
   refine(D.o _).mono ?_;rintro e w3 ⟨rfl,d⟩;subst d;go_wp2_with fail
   refine(x.o _).mono ?_;rintro e w4 ⟨rfl,d⟩;subst d;go_wp2;go_ret;exact .bad 6 rfl p.o (iT ⟨_,rfl⟩)
 . rw[i,if_neg (by simp)] at c;rw[i] at x;clear i;by_cases j:gt.data.toList.head?≠M 47∨9∈gt.data.toList
   . rw[if_pos j] at c;rw[aI (fun e=>e j)] at f;have p:=H9 c;clear c j;go_enter func140,ntmps140;go_wp2_with fail
     refine B.o.mono ?_;rintro e w1 ⟨rfl,n1,rfl⟩;go_wp2_with fail
     refine(C.o _).mono ?_;rintro e w2 ⟨rfl,n2,rfl⟩;go_wp2_with fail
     refine(D.o _).mono ?_;rintro e w3 ⟨rfl,d⟩;subst d;go_wp2_with fail
     refine(x.o _).mono ?_;rintro e w4 ⟨rfl,d⟩;subst d;go_wp2_with fail
     refine(f.o _).mono ?_;rintro e w5 ⟨rfl,a⟩;have q:=H9 ((iT ⟨_,rfl⟩).trans (a.mono (aL _)));clear a;go_wp2;go_ret;exact .bad 5 rfl p.o q.o
   . rw[if_neg j] at c;rw[aH j] at f;clear j;by_cases h11:v.data.toList=[72,84,84,80,47,49,46,49]
     . rw[if_pos h11] at c;rw[aH h11] at P S;have p:=H9 c;clear c h11 y XM;go_enter func140,ntmps140;go_wp2_with fail
       refine B.o.mono ?_;rintro e w1 ⟨rfl,n1,rfl⟩;go_wp2_with fail
       refine(C.o _).mono ?_;rintro e w2 ⟨rfl,n2,rfl⟩;go_wp2_with fail
       refine(D.o _).mono ?_;rintro e w3 ⟨rfl,d⟩;subst d;go_wp2_with fail
       refine(x.o _).mono ?_;rintro e w4 ⟨rfl,d⟩;subst d;go_wp2_with fail
       refine(f.o _).mono ?_;rintro e w5 ⟨rfl,a⟩;have q:=H9 ((iT ⟨_,rfl⟩).trans (a.mono (aL _)));clear a;go_wp2_with fail
       refine(M7.o _).mono ?_;rintro e w6 ⟨rfl,n⟩;have T:=H9 (then_ q.o n);clear n q;go_wp2_with fail
       refine(O.o _).mono ?_;rintro e z ⟨rfl,XF⟩;have G:=H9 (then_ T.o XF);have u:=H9 (HP.o.stay G.o);have f1:=(u.o.stay ((fI _ z).alloc (aL _) (K #[V m,V gt,I J 0,Z U 0 0,I J 0] 68))).fz 1;have k1:=(u.o.stay ((fI _ z).alloc (aL _) (K #[V m,V gt,I J 0,Z U 0 0,I J 0] 68))).c1;clear XF T;have k2:=(Bo (m:=m) (gt:=gt) u.o G.o Zw.o).1.c1;go_wp2;go_ret;obtain⟨o1,o2,o3⟩:=Ud (m:=m) (gt:=gt) u.o G.o Zw.o;exact .ok _ z.heap.size rfl p.o o1 o2 o3
     . rw[if_neg h11] at c;rw[aI h11] at P S;by_cases k:v.data.toList=[72,84,84,80,47,49,46,48]
       . rw[if_pos k] at c;rw[aH k] at y XM;have p:=H9 c;clear c h11 k;go_enter func140,ntmps140;go_wp2_with fail
         refine B.o.mono ?_;rintro e w1 ⟨rfl,n1,rfl⟩;go_wp2_with fail
         refine(C.o _).mono ?_;rintro e w2 ⟨rfl,n2,rfl⟩;go_wp2_with fail
         refine(D.o _).mono ?_;rintro e w3 ⟨rfl,d⟩;subst d;go_wp2_with fail
         refine(x.o _).mono ?_;rintro e w4 ⟨rfl,d⟩;subst d;go_wp2_with fail
         refine(f.o _).mono ?_;rintro e w5 ⟨rfl,a⟩;have q:=H9 ((iT ⟨_,rfl⟩).trans (a.mono (aL _)));clear a;go_wp2_with fail
         refine(M7.o _).mono ?_;rintro e w6 ⟨rfl,n⟩;have T:=H9 (then_ q.o n);clear n q;go_wp2_with fail
         refine(O.o _).mono ?_;rintro e z ⟨rfl,XF⟩;have G:=H9 (then_ T.o XF);have u:=H9 (HP.o.stay G.o);have f1:=(u.o.stay ((fI _ z).alloc (aL _) (K #[V m,V gt,I J 0,Z U 0 0,I J 0] 68))).fz 1;have k1:=(u.o.stay ((fI _ z).alloc (aL _) (K #[V m,V gt,I J 0,Z U 0 0,I J 0] 68))).c1;clear XF T;go_wp2;go_ret;obtain⟨o1,o2,o3⟩:=Bo (m:=m) (gt:=gt) u.o G.o Zw.o;exact .ok _ z.heap.size rfl p.o o1 o2 o3
       . rw[if_neg k] at c;rw[aI k] at y XM;have p:=H9 c;clear c h11 k;go_enter func140,ntmps140;go_wp2_with fail
         refine B.o.mono ?_;rintro e w1 ⟨rfl,n1,rfl⟩;go_wp2_with fail
         refine(C.o _).mono ?_;rintro e w2 ⟨rfl,n2,rfl⟩;go_wp2_with fail
         refine(D.o _).mono ?_;rintro e w3 ⟨rfl,d⟩;subst d;go_wp2_with fail
         refine(x.o _).mono ?_;rintro e w4 ⟨rfl,d⟩;subst d;go_wp2_with fail
         refine(f.o _).mono ?_;rintro e w5 ⟨rfl,a⟩;have q:=H9 ((iT ⟨_,rfl⟩).trans (a.mono (aL _)));clear a;go_wp2;go_ret;exact .bad 11 rfl p.o q.o
theorem Uf (w:X)(g:Nat)(a bd:Value)(t:av)(f:jf w g a (Q U) F bd 0)(c:t.size<=2000)(i:∀b∈t.data.toList,Ch.visible b.toNat=true):
 Calls prog 140 #[Q (M ⟨g,0,U⟩),V t] w fun e w'=>Po w g a bd t.data.toList e w':=by
 by_cases d:t.data.toList.count 32=2
 . exact Ue w g a bd t f c i d
 . exact Pp w g a bd t c d
end Go.Proofs.YtjmndjmhjleabaaGreatDoor