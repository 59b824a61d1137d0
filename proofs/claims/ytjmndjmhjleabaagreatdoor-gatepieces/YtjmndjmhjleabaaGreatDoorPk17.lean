/- Small texts, one behind the other: MemG, MemUC, MemUD, MemVA, MemPr, MemUE. -/
import Derived.Test.YtjmndjmhjleabaaGreatDoorPk11
import Derived.Test.YtjmndjmhjleabaaGreatDoorPk16
import Derived.Deep.AppendLies
import Derived.Test.YtjmndjmhjleabaaGreatDoorPk15
import Derived.Laws.IdiomCopy
namespace Go.Proofs.YtjmndjmhjleabaaGreatDoor
open Go.RowKit
def cK (l:List UInt8)(bo:Option Addr):Option Nat:=if l=[] then none else au bo
section
variable {P:Program} (w:World)
theorem run_append_nothing (t ty e:TypeId)(i:TypeInfo)(ht:P.underlying t=some (.slice e))(hi:P.info? e=some i)(bo uh:Option Addr)(n cap cap2:Nat)(hn:n<=cap):
 (Builtin.append_ #[t,t] ty #[.slice bo n cap,.slice uh 0 cap2]).run P w=.ok (.slice bo n cap) w:=by
 cases bo <;> cases uh <;> simp[Builtin.append_,run_underlying ht,sizeOf,typeInfo,hi,Builtin.lenOf,Builtin.firstCells,loadCells,loadCellsFrom,storeCells,hn]
theorem um (t ty e:TypeId)(i:TypeInfo)(ht:P.underlying t=some (.slice e))(hi:P.info? e=some i)(hz:i.zero=some (.int .u8 0))(hz1:i.size=1)(hz2:i.bytes=1)
 {S:Nat->Prop} {bo uh:Option Addr} {aj cap2 n n2:Nat} {l l2:List UInt8} (h:aF w S e bo aj l) (hn:l.length=n) (hs:aU w uh cap2 l2) (hn2:l2.length=n2) (hlen:n+n2<=140737488355328) :
 ∃iZ cap' w', (Builtin.append_ #[t, t] ty #[.slice bo n aj, .slice uh n2 cap2]).run P w = .ok (.slice iZ (n + n2) cap') w' ∧
   aF w' (fun k=>cK l bo=some k∨w.heap.size<=k) e iZ cap' (l++l2)∧Turns (fun k=>cK l bo=some k) w w':=by
 subst hn;subst hn2;by_cases h2:l2=[]
 . subst h2;refine⟨bo,aj,w,?_,?_,Turns.refl _ _⟩
   . have hc:l.length<=aj:=h.qc.1;exact run_append_nothing w t ty e i ht hi bo uh l.length aj cap2 hc
   . rw[List.append_nil];rcases h with ⟨h1,h2,_⟩ | h
     . exact Or.inl ⟨h1,h2,fun a e=>Or.inl (by unfold cK;rw[if_neg h1,e];rfl)⟩
     . exact Or.inr h
 . have hpos:0<l2.length:=List.length_pos_iff.2 h2;obtain⟨a2,rfl⟩:=hs.some hpos;have hcell:∀j u,(bN l2)[j]? = some u->w.cell? (a2.add j)=some u:=fun j u hu=>by
    have hj:j<l2.length:=by
     have:=(List.getElem?_eq_some_iff.1 hu).1;rwa[aG] at this
    rw[fJ l2 j hj] at hu;injection hu with hu;subst hu;exact hs.cell j hj
   rcases h with ⟨h1,hown,hm⟩ | ⟨rfl,rfl⟩
   . obtain⟨g,cap',w',hr,hO,hG,hat,_⟩:=run_append_lies (P:=P) w t ty 0 e i (.int .u8 0) 1 1 ht hi hz hz1 hz2 rfl (by decide) (.slice bo l.length aj) l.length (bN l) hown a2 l2.length cap2 (bN l2) (by rw[aG];omega) hcell (oZ l2) hpos (by unfold maxLen;omega) (by omega) (Nat.zero_le _) w.heap.size rfl;rw[ay] at hG hat;have eB:cK l bo=au bo:=by unfold cK;rw[if_neg h1]
     refine⟨_,cap',w',hr,Or.inl ⟨by simp[h1],?_,fun a e=>?_⟩,Turns.bI hG (fun k e=>by rw[eB];exact e)⟩
     . unfold aT;rw[jQ,List.length_append];exact hO
     . injection e with e;subst e;rcases hat with hat | hat
       . exact Or.inl (by rw[eB];exact hat)
       . exact Or.inr (by show w.heap.size<=g;omega)
   . have hold:(Builtin.firstCells i.size 0 (.slice bo 0 0)).run P w.drew=.ok ([]:List Value).toArray w.drew:=by
      cases bo <;> simp[Builtin.firstCells,loadCells,loadCellsFrom]
     have hr:=run_append_grow_src (P:=P) w t t ty e i (.int .u8 0) ht hi hz bo 0 0 [] hold (.slice (some a2) l2.length cap2) l2.length (bN l2) (by rw[hz1];exact Src.ofSlice _ ht a2 _ cap2 _ (by rw[aG];omega) hcell (oZ l2)) (by omega) (by omega) (by rw[hz2];exact growslice_fits (by omega) (by omega));have hge:=grownCap_ge w (0+l2.length) 0 e;have hle:=grownCap_le_maxLen w (0+l2.length) 0 e (by unfold maxLen;omega);generalize grownCap w (0+l2.length) 0 e=cap' at hr hge hle;refine⟨_,cap',_,hr,Or.inl ⟨by simpa using h2,?_,fun a e=>?_⟩,⟨rfl,rfl,rfl,by simp,fun k hk _=>Below.heap_alloc w.drew _ k hk⟩⟩
     . rw[List.nil_append];have hzc:(Value.int IntKind.u8 0).cells.size=1:=rfl;have hge':l2.length<=cap':=by omega
       refine⟨by rw[aG];omega,.inr ⟨w.heap.size,cap',_,by simp,Nat.zero_le _,heap_alloc_new w.drew _,hge',hle,?_,?_⟩⟩
       . simp only[Array.size_append,List.size_toArray,aG,size_zeroCells,hzc];omega
       . simp only[Array.toList_append,List.nil_append,Nat.mul_one];rw[<-aG l2];exact List.take_left
     . injection e with e;subst e;exact Or.inr (Nat.le_refl _)
end
section
variable {P:Program} {w:World}
theorem nN {o:Oper}{a:Act}{K:Act->World->Prop}{Q:Exit->Act->World->Prop}(s x:Operand)(t:TypeId)
 (ho:o.op=.call { callee:=.builtin .append,args:=#[s,x],argTypes:=#[t,t] })
 (e:TypeId) (i:TypeInfo) (ht:P.underlying t=some (.slice e)) (hi:P.info? e=some i) (hz:i.zero=some (.int .u8 0)) (hz1:i.size=1) (hz2:i.bytes=1)
 {S:Nat->Prop} {bo uh:Option Addr} {aj cap2 n n2:Nat} {l l2:List UInt8} (hs:a.eval s=.slice bo n aj) (hx:a.eval x=.slice uh n2 cap2) (hg:aF w S e bo aj l) (hn:l.length=n) (hb:aU w uh cap2 l2) (hn2:l2.length=n2) (hlen:n+n2<=140737488355328)
 (h:∀iZ cap' w',aF w' (fun k=>cK l bo=some k∨w.heap.size<=k) e iZ cap' (l++l2)->Turns (fun k=>cK l bo=some k) w w'->K (a.put o.dst (.slice iZ (n+n2) cap')) w'):o.wp P a w K Q:=by
 obtain⟨iZ,cap',w',hr,h2,h3⟩:=um (P:=P) w t o.type e i ht hi hz hz1 hz2 hg hn hb hn2 hlen;unfold Oper.wp execOp;simp only[ho,resolve,invoke,builtin,Sem.run_bind,Sem.run_pure,Result.andThen_ok,List.map_toArray,List.map_cons,List.map_nil,hs,hx,hr];exact h iZ cap' w' h2 h3
theorem dZ {ops:Array Oper}{rest:List Oper}{o:Oper}{a:Act}{Q:Exit->Act->World->Prop}(hgd:o.guard=none)(s x:Operand)(t:TypeId)
 (ho:o.op=.call { callee:=.builtin .append,args:=#[s,x],argTypes:=#[t,t] })
 (e:TypeId) (i:TypeInfo) (ht:P.underlying t=some (.slice e)) (hi:P.info? e=some i) (hz:i.zero=some (.int .u8 0)) (hz1:i.size=1) (hz2:i.bytes=1)
 {S:Nat->Prop} {bo uh:Option Addr} {aj cap2 n n2:Nat} {l l2:List UInt8} (hs:a.eval s=.slice bo n aj) (hx:a.eval x=.slice uh n2 cap2) (hg:aF w S e bo aj l) (hn:l.length=n) (hb:aU w uh cap2 l2) (hn2:l2.length=n2) (hlen:n+n2<=140737488355328)
 (h:∀iZ cap' w',aF w' (fun k=>cK l bo=some k∨w.heap.size<=k) e iZ cap' (l++l2)->Turns (fun k=>cK l bo=some k) w w'->wpList P ops Q rest (a.put o.dst (.slice iZ (n+n2) cap')) w'):wpList P ops Q (o::rest) a w :=
 wpList_plain hgd fun _ hK=>nN s x t ho e i ht hi hz hz1 hz2 hs hx hg hn hb hn2 hlen fun iZ cap' w' h2 h3=>hK _ _ (h iZ cap' w' h2 h3)
theorem iR {ops:Array Oper}{o:Oper}{a:Act}{K:Act->World->Prop}{Q:Exit->Act->World->Prop}{E:Prop}(hgd:o.guard=none)(s x:Operand)(t:TypeId)
 (ho:o.op=.call { callee:=.builtin .append,args:=#[s,x],argTypes:=#[t,t] })
 (e:TypeId) (i:TypeInfo) (ht:P.underlying t=some (.slice e)) (hi:P.info? e=some i) (hz:i.zero=some (.int .u8 0)) (hz1:i.size=1) (hz2:i.bytes=1)
 {S:Nat->Prop} {bo uh:Option Addr} {aj cap2 n n2:Nat} {l l2:List UInt8} (hs:a.eval s=.slice bo n aj) (hx:a.eval x=.slice uh n2 cap2) (hg:aF w S e bo aj l) (hn:l.length=n) (hb:aU w uh cap2 l2) (hn2:l2.length=n2) (hlen:n+n2<=140737488355328)
 (h:∀iZ cap' w',aF w' (fun k=>cK l bo=some k∨w.heap.size<=k) e iZ cap' (l++l2)->Turns (fun k=>cK l bo=some k) w w'->K (a.put o.dst (.slice iZ (n+n2) cap')) w') :
 if Region.wanted o (yielded ops a.tmps)=true then Oper.wp P o a w K Q else E:=by
 have hw:Region.wanted o (yielded ops a.tmps)=true:=by simp[Region.wanted,hgd]
 rw[if_pos hw];exact nN s x t ho e i ht hi hz hz1 hz2 hs hx hg hn hb hn2 hlen h
end
section
variable {w w':World} {S S' T:Nat->Prop} {t:Nat} {ao:Option Addr} {cap:Nat} {l:List UInt8}
theorem aF.blk (h:aF w S t ao cap l){k:Nat}(e:cK l ao=some k):S k∧k<w.heap.size:=by
 unfold cK at e;split at e
 . cases e
 . rename_i hl;rcases h with ⟨_,h2,h3⟩ | ⟨h1,_⟩
   . cases ao with
     | none=>cases e
     | some a=>injection e with e;subst e;exact⟨h3 a rfl,(h2.block a rfl).2⟩
   . exact absurd h1 hl
theorem aF.over (h:aF w S t ao cap l)(ht:Turns T w w')(hn:∀k,S k->cK l ao=some k->k<w.heap.size->¬T k∧S' k):aF w' S' t ao cap l:=by
 rcases h with ⟨h1,h2,h3⟩ | h
 . have hb:∀a,ao=some a->¬T a.block∧S' a.block:=fun a e=>hn _ (h3 a e) (by unfold cK;rw[if_neg h1,e];rfl) (h2.block a e).2;exact Or.inl ⟨h1,h2.turns ht (fun a e=>(hb a e).1),fun a e=>(hb a e).2⟩
 . exact Or.inr h
theorem aF.to (h:aF w S t ao cap l)(hn:∀k,S k->cK l ao=some k->k<w.heap.size->S' k):aF w S' t ao cap l:=h.over (Turns.refl (fun _=>False) w) (fun k a b c=>⟨fun e=>e,hn k a b c⟩)
end
def qw (x:Sp.Up×qK):Option Nat:=cK x.1.bytes x.2.bo
def Apart (us:List (Sp.Up×qK)):Prop:=∀(i j:Nat) (x y:Sp.Up×qK),us[i]? = some x->us[j]? = some y->i≠j->∀k,qw x=some k->qw y≠some k
theorem xP {α:Type}{x b:α}{n:Nat}(h:[x][n]? = some b):n=0∧b=x:=by
 cases n with
 | zero=>exact⟨rfl,by simpa using h.symm⟩
 | succ n=>simp at h
theorem Apart.nil:Apart []:=fun i j x y h=>by simp at h
theorem Apart.push {us:List (Sp.Up×qK)}{x:Sp.Up×qK}(h:Apart us)(hx:∀y∈us,∀k,qw y=some k->qw x≠some k):Apart (us++[x]):=by
 intro i j a b ha hb hij k ka kb;rcases Nat.lt_or_ge i us.length with hi | hi
 . rw[List.getElem?_append_left hi] at ha;rcases Nat.lt_or_ge j us.length with hj | hj
   . rw[List.getElem?_append_left hj] at hb;exact h i j a b ha hb hij k ka kb
   . rw[List.getElem?_append_right hj] at hb;obtain⟨_,rfl⟩:=xP hb;exact hx a (List.mem_of_getElem? ha) k ka kb
 . rw[List.getElem?_append_right hi] at ha;obtain⟨e1,rfl⟩:=xP ha;rcases Nat.lt_or_ge j us.length with hj | hj
   . rw[List.getElem?_append_left hj] at hb;exact hx b (List.mem_of_getElem? hb) k kb ka
   . rw[List.getElem?_append_right hj] at hb;obtain⟨e2,_⟩:=xP hb;omega
theorem Apart.set {us:List (Sp.Up×qK)}{x:Sp.Up×qK}(h:Apart us)(i:Nat)(hx:∀j y,us[j]? = some y->j≠i->∀k,qw y=some k->qw x≠some k):Apart (us.set i x):=by
 intro a b p q ha hb hab k kp kq;rw[List.getElem?_set] at ha hb;split at ha
 . rename_i e1;split at hb
   . rename_i e2;omega
   . rename_i e2;split at ha
     . injection ha with ha;subst ha;exact hx b q hb (fun e=>e2 e.symm) k kq kp
     . cases ha
 . rename_i e1;split at hb
   . split at hb
     . injection hb with hb;subst hb;exact hx a p ha (fun e=>e1 e.symm) k kp kq
     . cases hb
   . exact h a b p q ha hb hab k kp kq
theorem Apart.erase {us:List (Sp.Up×qK)}(h:Apart us)(i:Nat):Apart (us.eraseIdx i):=by
 intro a b p q ha hb hab k kp kq;rw[List.getElem?_eraseIdx] at ha hb;split at ha <;> split at hb
 . exact h a b p q ha hb hab k kp kq
 . exact h a (b+1) p q ha hb (by omega) k kp kq
 . exact h (a+1) b p q ha hb (by omega) k kp kq
 . exact h (a+1) (b+1) p q ha hb (by omega) k kp kq
def jR (w:World)(S:Nat->Prop)(tU tB:Nat)(ao:Option Addr)(cap:Nat)(l:List Sp.Up):Prop :=
 ∃us:List (Sp.Up×qK),us.map (·.1)=l∧aC w 0 tU 5 ao cap l.length (lX us)∧(∀a,ao=some a->S a.block)∧(∀x∈us,aF w (fun k=>S k∧au ao≠some k) tB x.2.bo x.2.aj x.1.bytes)∧Apart us
section
variable {w w' w1:World} {S S' N:Nat->Prop} {tU tB:Nat} {ao:Option Addr} {cap:Nat} {l:List Sp.Up}
theorem jR.nil (w:World)(S:Nat->Prop)(tU tB:Nat):jR w S tU tB none 0 []:=⟨[],rfl,aC.nil _ _ _ _,fun a e=>(by cases e),fun p hp=>(by cases hp),Apart.nil⟩
theorem jR.at_ (h:jR w S tU tB ao cap l):Ed w S tU ao cap l:=by
 obtain⟨us,h1,h2,h3,h4,_⟩:=h;exact⟨us,h1,h2,h3,fun x hx=>(h4 x hx).WU⟩
theorem jR.rT (h:jR w S tU tB ao cap l):jH w ao cap l:=h.at_.rT
theorem jR.cap_ (h:jR w S tU tB ao cap l):l.length<=cap:=by
 obtain⟨us,h1,h2,h3,h4,_⟩:=h;exact h2.lQ.1
theorem jR.turns (h:jR w S tU tB ao cap l)(ht:Turns S' w w')(hs:∀k,S k->¬S' k):jR w' S tU tB ao cap l:=by
 obtain⟨us,h1,h2,h3,h4,h5⟩:=h;exact⟨us,h1,h2.turns ht (fun a e=>hs _ (h3 a e)),h3,fun x hx=>(h4 x hx).turns ht (fun k e=>hs k e.1),h5⟩
theorem jR.mono (h:jR w S tU tB ao cap l)(hs:∀k,k<w.heap.size->S k->S' k):jR w S' tU tB ao cap l:=by
 obtain⟨us,h1,h2,h3,h4,h5⟩:=h;exact⟨us,h1,h2,fun a e=>hs _ (h2.block a e).2 (h3 a e),fun x hx=>(h4 x hx).mono (fun k hk e=>⟨hs k hk e.1,e.2⟩),h5⟩
theorem jR.stay (h:jR w S tU tB ao cap l)(hb:Below w.heap.size w w'):jR w' S tU tB ao cap l:=h.turns (Turns.of_below (S:=fun _=>False) hb) (fun _ _ e=>e)
theorem u6 {S:Nat->Prop}(h3:∀a,ao=some a->S a.block):∀k,au ao=some k->S k:=fun k e=>by
 cases ao with
 | none=>cases e
 | some a=>injection e with e;subst e;exact h3 a rfl
theorem jR.push {W:World}(h:jR W S tU tB ao cap l)(ob:Obj):∃xs,aC (W.alloc ob) 0 tU 5 ao cap l.length xs ∧
 ∀aD cap' w' (u:Sp.Up) (s:qK) (N:Nat->Prop),aF W N tB s.bo s.aj u.bytes->(∀k,S k->¬N k)->aC w' 0 tU 5 aD cap' (l.length+1) (xs++nM u s)->(W.alloc ob).grownBy w' (au ao)->(au aD=au ao∨au aD=some (W.alloc ob).heap.size)->jR w' (fun k=>S k∨N k∨W.heap.size<=k) tU tB aD cap' (l++[u])∧Turns S W w':=by
 obtain⟨us,h1,h2,h3,h4,h5⟩:=h;have hb:Below W.heap.size W (W.alloc ob):=(Below.refl _ _).alloc (Nat.le_refl _) _;have M4:=u6 h3;refine⟨lX us,h2.stay hb,fun aD cap' w' u s N hB hN xY hG hat=>?_⟩;have hT:Turns (fun k=>au ao=some k) W w':=(Turns.of_below hb).trans (Turns.bI hG (fun k e=>e)) (fun _ e _=>e);have hne:∀k,k<W.heap.size->au ao≠some k->au aD≠some k:=fun k hk h e=>by
  rcases hat with g | g
  . rw[g] at e;exact h e
  . rw[g,World.size_alloc] at e;injection e with e;omega
 refine⟨⟨us++[(u,s)],by simp[h1],by rw[mZ,RB,List.length_append];exact xY,fun a e=>?_,fun x hx=>?_,h5.push fun y hy k ky kx=>hN k ((h4 y hy).blk ky).1.1 (hB.blk kx).1⟩,hT.mono (fun k e=>M4 k e)⟩
 . subst e;rcases hat with g | g
   . exact Or.inl (M4 _ (g.symm.trans rfl))
   . rw[World.size_alloc] at g;injection g with g;exact Or.inr (Or.inr (by omega))
 . rcases List.mem_append.1 hx with hx | hx
   . exact(h4 x hx).over hT (fun k e _ hk=>⟨e.2,Or.inl e.1,hne k hk e.2⟩)
   . rw[List.mem_singleton.1 hx];have hno:∀k,N k->au ao≠some k:=fun k hk e=>hN k (M4 k e) hk;exact hB.over hT (fun k e _ hk=>⟨hno k e,Or.inr (Or.inl e),hne k hk (hno k e)⟩)
theorem jR.put {g i j:Nat}{v:Value}{u:Sp.Up}(h:jR w S tU tB (some ⟨g,0,none⟩) cap l)(hi:i<l.length)(hj:j<5)(hv:∀s,(nM l[i] s).set j v=nM u s)(hb:u.bytes=l[i].bytes):jR (w.setCell ⟨g,i*5+j,none⟩ v) S tU tB (some ⟨g,0,none⟩) cap (l.set i u)∧Turns (fun k=>k=g) w (w.setCell ⟨g,i*5+j,none⟩ v):=by
 obtain⟨us,rfl,h2,h3,h4,h5⟩:=h;have hi':i<us.length:=by simpa using hi
 have hS:Turns (fun k=>k=g) w (w.setCell ⟨g,i*5+j,none⟩ v):=Turns.setCell (fun k=>k=g) w _ _ rfl;have hb':u.bytes=us[i].1.bytes:=by rw[hb,List.getElem_map]
 have hblk:qw (u,us[i].2)=qw us[i]:=by unfold qw;simp only;rw[hb']
 refine⟨⟨us.set i (u,us[i].2),by rw[List.map_set],?_,h3,fun x hx=>?_,h5.set i fun j y hy hj k ky kx=>?_⟩,hS⟩
 . have Ee:=(World.ownsRow.stored h2 (i*5+j) v).1;rw[xW us i hi' j v (u,us[i].2) hj (by have:=hv us[i].2;rw[List.getElem_map] at this;exact this)] at Ee;rw[List.length_set];exact Ee
 . have ht:∀y:Sp.Up×qK,aF w (fun k=>S k∧au (some ⟨g,0,none⟩)≠some k) tB y.2.bo y.2.aj y.1.bytes->aF (w.setCell ⟨g,i*5+j,none⟩ v) (fun k=>S k∧au (some ⟨g,0,none⟩)≠some k) tB y.2.bo y.2.aj y.1.bytes:=fun y hy=>hy.turns hS (fun k e e2=>e.2 (by subst e2;rfl));rcases List.mem_or_eq_of_mem_set hx with hx | hx
   . exact ht x (h4 x hx)
   . subst hx;have:=ht us[i] (h4 us[i] (List.getElem_mem hi'));show aF _ _ _ us[i].2.bo us[i].2.aj u.bytes;rw[hb'];exact this
 . rw[hblk] at kx;exact h5 j i y us[i] hy (List.getElem?_eq_getElem hi') hj k ky kx
theorem jR.lies (h:jR w S tU tB ao cap l)(i:Nat)(hi:i<l.length):∃(g:Nat) (s:qK),ao=some ⟨g,0,none⟩∧S g∧g<w.heap.size∧w.cell? ⟨g,i*5,none⟩=some (.int .i64 l[i].id)∧w.cell? ⟨g,i*5+1,none⟩=some (.int .i64 l[i].size)∧w.cell? ⟨g,i*5+2,none⟩=some (.string l[i].note)∧w.cell? ⟨g,i*5+3,none⟩=some (.slice s.bo l[i].bytes.length s.aj)∧w.cell? ⟨g,i*5+4,none⟩=some (.int .i64 l[i].sent)∧(∀j,w.frozen? ⟨g,j,none⟩=false)∧aF w (fun k=>S k∧k≠g) tB s.bo s.aj l[i].bytes ∧
 ∀w1 iZ dK bs n,aF w1 (fun k=>cK l[i].bytes s.bo=some k∨w.heap.size<=k) tB iZ dK bs->Turns (fun k=>cK l[i].bytes s.bo=some k) w w1->n=bs.length->jR (w1.setCell ⟨g,i*5+3,none⟩ (.slice iZ n dK)) (av S w) tU tB (some ⟨g,0,none⟩) cap (l.set i { l[i] with bytes:=bs })∧Turns S w (w1.setCell ⟨g,i*5+3,none⟩ (.slice iZ n dK)):=by
 have hU:=h.rT.at_ i hi;obtain⟨g,hg,Xc,_,_⟩:=h.at_.row i hi;subst hg;obtain⟨us,rfl,h2,h3,h4,h5⟩:=h;have hi':i<us.length:=by simpa using hi
 have hc:∀j,j<5->w.cell? ⟨g,i*5+j,none⟩=(nM us[i].1 us[i].2)[j]?:=fun j hj=>by
  rw[World.ownsRow.cellAt h2 (i*5+j) (by omega),ng us i hi' j hj]
 have hx:=h4 _ (List.getElem_mem hi');have hxg:aF w (fun k=>S k∧k≠g) tB us[i].2.bo us[i].2.aj us[i].1.bytes:=hx.to (fun k e _ _=>⟨e.1,fun e2=>e.2 (by subst e2;rfl)⟩);simp only[List.getElem_map];refine⟨g,us[i].2,rfl,Xc,(h2.block _ rfl).2,hc 0 (by decide),hc 1 (by decide),hc 2 (by decide),hc 3 (by decide),hc 4 (by decide),fun j=>World.ownsRow.frozenAt h2 j,hxg,fun w1 iZ dK bs n hB hT hn=>?_⟩;subst hn;have hlast:∀k,cK us[i].1.bytes us[i].2.bo=some k->S k∧k≠g:=fun k e=>(hxg.blk e).1;have hgl:g<w.heap.size:=(h2.block _ rfl).2;have dx:Turns S w (w1.setCell ⟨g,i*5+3,none⟩ (.slice iZ bs.length dK)):=(hT.mono (fun k e=>(hlast k e).1)).trans (Turns.setCell S w1 _ _ Xc) (fun _ e _=>e);have hS:Turns (fun k=>k=g) w1 (w1.setCell ⟨g,i*5+3,none⟩ (.slice iZ bs.length dK)):=Turns.setCell (fun k=>k=g) w1 _ _ rfl;have Ef:aC w1 0 tU 5 (some ⟨g,0,none⟩) cap (us.map (·.1)).length (lX us):=h2.turns hT (fun a e h=>by injection e with e;subst e;exact(hlast _ h).2 rfl);refine⟨⟨us.set i ({ us[i].1 with bytes:=bs },⟨iZ,dK⟩),by rw[List.map_set],?_,fun a e=>Or.inl (h3 a e),fun x hx2=>?_,h5.set i fun j y hy hj k ky kx=>?_⟩,dx⟩
 . have Ee:=(World.ownsRow.stored Ef (i*5+3) (.slice iZ bs.length dK)).1;rw[xW us i hi' 3 _ ({ us[i].1 with bytes:=bs },⟨iZ,dK⟩) (by decide) rfl] at Ee;rw[List.length_set];exact Ee
 . obtain⟨j,hj⟩:=List.getElem?_of_mem hx2;rw[List.getElem?_set] at hj;split at hj
   . rename_i e;first | rw[if_pos hi'] at hj | skip
     injection hj with hj;subst hj;refine(hB.to (S':=fun k=>av S w k∧k≠g) (fun k h _ _=>?_)).over hS (fun k e _ _=>⟨e.2,e.1,fun e2=>e.2 (by injection e2 with e2;exact e2.symm)⟩);rcases h with h | h
     . exact⟨Or.inl (hlast k h).1,(hlast k h).2⟩
     . exact⟨Or.inr h,by omega⟩
   . rename_i e;have hm:=List.mem_of_getElem? hj;have hg1:aF w1 (fun k=>S k∧k≠g) tB x.2.bo x.2.aj x.1.bytes:=(h4 x hm).over hT (fun k e1 e2 _=>⟨fun e3=>h5 j i x us[i] hj (List.getElem?_eq_getElem hi') (fun e4=>e e4.symm) k e2 e3,e1.1,fun e5=>e1.2 (by subst e5;rfl)⟩);exact hg1.over hS (fun k e _ _=>⟨e.2,Or.inl e.1,fun e2=>e.2 (by injection e2 with e2;exact e2.symm)⟩)
 . rcases(hB.blk kx).1 with e | e
   . exact h5 j i y us[i] hy (List.getElem?_eq_getElem hi') hj k ky e
   . have:=((h4 y (List.mem_of_getElem? hy)).blk ky).2;omega
theorem KP (us:List (Sp.Up×qK))(i:Nat):lX (us.eraseIdx i)=lX (us.take i)++lX (us.drop (i+1)):=by rw[List.eraseIdx_eq_take_drop_succ,mZ]
theorem jR.drop (h:jR w S tU tB ao cap l)(i:Nat)(hi:i<l.length):∃us:List (Sp.Up×qK),us.length=l.length∧aC w 0 tU 5 ao cap l.length (lX us) ∧
 ∀w' aD cap',aC w' 0 tU 5 aD cap' (l.length-1) (lX (us.eraseIdx i))->Turns (fun k=>au ao=some k) w w'->(∀k,au aD=some k->au ao=some k∨w.heap.size<=k)->jR w' (av S w) tU tB aD cap' (l.eraseIdx i)∧Turns S w w':=by
 obtain⟨us,rfl,h2,h3,h4,h5⟩:=h;have M4:=u6 h3;refine⟨us,by simp,h2,fun w' aD cap' hO hT hat=>⟨⟨us.eraseIdx i,by simp[List.eraseIdx_eq_take_drop_succ,List.map_take,List.map_drop],?_,fun a e=>?_,fun x hx=>?_,h5.erase i⟩,hT.mono M4⟩⟩
 . rw[List.length_eraseIdx_of_lt hi];exact hO
 . subst e;rcases hat _ rfl with g | g
   . exact Or.inl (M4 _ g)
   . exact Or.inr g
 . refine(h4 x (List.mem_of_mem_eraseIdx hx)).over hT (fun k e _ hk=>⟨e.2,Or.inl e.1,fun e2=>?_⟩);rcases hat k e2 with g | g
   . exact e.2 g
   . omega
end
def rU:List Value->Nat->List Value->List Value
 | xs,_,[]=>xs
 | xs,o,v::vs=>rU (xs.set o v) (o+1) vs
theorem xZ:∀(vs xs:List Value) (o j:Nat),(rU xs o vs)[j]? = if o<=j∧j<o+vs.length∧j<xs.length then vs[j-o]? else xs[j]?
 | [], xs, o, j => by
   rw[rU,if_neg];simp only[List.length_nil];omega
 | v :: vs, xs, o, j => by
   rw[rU,xZ vs (xs.set o v) (o+1) j,List.length_set,List.length_cons];by_cases hj:j=o
   . subst hj;rw[if_neg (by omega),List.getElem?_set,if_pos rfl];by_cases hl:j<xs.length
     . rw[if_pos hl,if_pos (by omega),Nat.sub_self];rfl
     . rw[if_neg hl,if_neg (by omega),List.getElem?_eq_none (by omega)]
   . have hjo:¬o=j:=fun e=>hj e.symm;rw[List.getElem?_set,if_neg hjo];by_cases hc:o+1<=j∧j<o+1+vs.length∧j<xs.length
     . rw[if_pos hc,if_pos (by omega),show j-o=(j-(o+1))+1 by omega,List.getElem?_cons_succ]
     . rw[if_neg hc,if_neg (by omega)]
theorem rV:∀(vs xs:List Value) (o:Nat),(rU xs o vs).length=xs.length
 | [],_,_=>rfl
 | v::vs,xs,o=>by rw[rU,rV vs,List.length_set]
section
variable {w w':World} {S S':Nat->Prop} {t k g cap n:Nat} {xs:List Value}
theorem aC.lays:∀(vs:List Value) (o:Nat) {xs:List Value} {w:World},aC w 0 t k (some ⟨g,0,none⟩) cap n xs->aC (w.setCells g o vs) 0 t k (some ⟨g,0,none⟩) cap n (rU xs o vs)
 | [],_,_,_,h=>h
 | v::vs,o,xs,w,h=>by rw[World.setCells,rU];exact aC.lays vs (o+1) (World.ownsRow.stored h o v).1
theorem gB (g:Nat):∀(vs:List Value) (o:Nat) (w:World),Turns (fun k=>k=g) w (w.setCells g o vs)
 | [],_,w=>Turns.refl _ w
 | v::vs,o,w=>by rw[World.setCells];exact(Turns.setCell (fun k=>k=g) w _ _ rfl).trans (gB g vs (o+1) _) (fun _ e _=>e)
theorem aC.less (h:aC w 0 t k (some ⟨g,0,none⟩) cap n xs)(m:Nat)(hm:m<=n):aC w 0 t k (some ⟨g,0,none⟩) cap m (xs.take (m*k)):=by
 have hl:=h.1;have hmk:m*k<=n*k:=Nat.mul_le_mul_right k hm;refine⟨by rw[List.length_take];omega,?_⟩;rcases h.2 with ⟨e,_⟩ | ⟨g',cap',cur,e,hg,hh,hn,hc,hs,ht⟩
 . simp at e
 . injection e with e1 e2 e3;injection e1 with e1;injection e1 with e1;subst e1;subst e3;exact Or.inr ⟨g,cap,cur,rfl,hg,hh,by omega,hc,hs,by rw[<-ht,List.take_take,Nat.min_eq_left hmk]⟩
theorem aC.gone (h:aC w 0 t k (some ⟨g,0,none⟩) cap n xs)(i:Nat)(hi:i<n)(zs:List Value):aC ((w.setCells g (i*k) (xs.drop ((i+1)*k))).setCells g ((n-1)*k) zs) 0 t k (some ⟨g,0,none⟩) cap (n-1) (xs.take (i*k)++xs.drop ((i+1)*k)):=by
 have hl:=h.1;have h1:=((h.lays (xs.drop ((i+1)*k)) (i*k)).lays zs ((n-1)*k)).less (n-1) (by omega);have hik:(i+1)*k=i*k+k:=Nat.succ_mul i k;have hnk:n*k=(n-1)*k+k:=by rw[<-Nat.succ_mul,show(n-1).succ=n by omega]
 have hin:i*k<=(n-1)*k:=Nat.mul_le_mul_right k (by omega);refine(congrArg (aC _ 0 t k (some ⟨g,0,none⟩) cap (n-1)) ?_).mp h1;refine List.ext_getElem? fun j=>?_;rw[List.getElem?_take,List.getElem?_append,List.length_take,List.getElem?_take,List.getElem?_drop];by_cases hj:j<(n-1)*k
 . rw[if_pos hj,xZ,if_neg (by omega),xZ,List.length_drop];by_cases hji:j<i*k
   . rw[if_neg (by omega),if_pos (by omega),if_pos hji]
   . rw[if_pos (by omega),if_neg (by omega),List.getElem?_drop,Nat.min_eq_left (by omega)]
 . rw[if_neg hj,if_neg (by omega),List.getElem?_eq_none (by omega)]
end
theorem zL {P:Program}(w:World)(t e ty:TypeId)(z:Value)(ht:P.underlying t=some (.slice e))(hv:∀w,(zeroValue e).run P w=.ok z w)(h1:∀v∈z.cells.toList,v.oneCell'=true)(b o c:Nat)
 (hc:∀j,j<z.cells.size->(w.cell? ⟨b,o+j,none⟩).isSome=true) (hf:∀j,j<z.cells.size->w.frozen? ⟨b,o+j,none⟩=false) :
 (Builtin.clear_ #[t] ty #[.slice (some ⟨b,o,none⟩) 1 c]).run P w=.ok (.tuple #[]) (w.setCells b o z.cells.toList):=by
 have hzc:Builtin.zeroCells z.cells 1=z.cells:=by
  apply Array.ext
  . simp[Builtin.zeroCells]
  . intro i h1 h2;simp[Builtin.zeroCells,Nat.mod_eq_of_lt h2];exact getElem!_pos z.cells i h2
 have hst:=run_storeCells_cells (P:=P) b o z.cells.toList 0 w (by simpa using hc) (by simpa using hf) h1;simp only[Nat.add_zero] at hst;simp[Builtin.clear_,run_underlying ht,hv,hzc,hst]
def iT (w:World)(S:Nat->Prop)(tO tU tB g:Nat)(s:Sp.St):Prop:=∃ao cap,w.heap[g]? = some (.cells #[.slice ao s.l.length cap,.int .i64 s.last] tO (0,0))∧S g∧jR w (fun k=>S k∧k≠g) tU tB ao cap s.l
section
variable {w w' w1:World} {S S' N:Nat->Prop} {tO tU tB g:Nat} {s:Sp.St}
theorem iT.turns (h:iT w S tO tU tB g s)(ht:Turns S' w w')(hs:∀k,S k->¬S' k):iT w' S tO tU tB g s:=by
 obtain⟨ao,cap,h1,h2,h3⟩:=h;exact⟨ao,cap,ht.row h1 (hs g h2),h2,h3.turns ht (fun k e=>hs k e.1)⟩
theorem iT.lt (h:iT w S tO tU tB g s):g<w.heap.size:=by
 obtain⟨ao,cap,h1,h2,h3⟩:=h;exact(Array.getElem?_eq_some_iff.1 h1).1
theorem iT.mono (h:iT w S tO tU tB g s)(hs:∀k,k<w.heap.size->S k->S' k):iT w S' tO tU tB g s:=by
 have hl:=h.lt;obtain⟨ao,cap,h1,h2,h3⟩:=h;exact⟨ao,cap,h1,hs g hl h2,h3.mono (fun k hk e=>⟨hs k hk e.1,e.2⟩)⟩
theorem iT.stay (h:iT w S tO tU tB g s)(hb:Below w.heap.size w w'):iT w' S tO tU tB g s:=h.turns (Turns.of_below (S:=fun _=>False) hb) (fun _ _ e=>e)
theorem iT.lay {v:Value}{last:Int}{l':List Sp.Up}{ao:Option Addr}{cap n:Nat}(hg:w1.heap[g]? = some (.cells #[v,.int .i64 last] tO (0,0)))(hS:S g)(hU:jR w1 (fun k=>S k∧k≠g) tU tB ao cap l')(hn:n=l'.length):iT (w1.setCell ⟨g,0,none⟩ (.slice ao n cap)) S tO tU tB g ⟨l',last⟩∧Turns (fun k=>k=g) w1 (w1.setCell ⟨g,0,none⟩ (.slice ao n cap)):=by
 subst hn;have hT:Turns (fun k=>k=g) w1 (w1.setCell ⟨g,0,none⟩ (.slice ao l'.length cap)):=Turns.setCell (fun k=>k=g) w1 _ _ rfl;exact⟨⟨ao,cap,heap_setCell_same w1 g 0 _ tO _ hg,hS,hU.turns hT (fun k e e2=>e.2 e2)⟩,hT⟩
theorem iT.cells (h:iT w S tO tU tB g s):∃ao cap,w.cell? ⟨g,0,none⟩=some (.slice ao s.l.length cap)∧w.cell? ⟨g,1,none⟩=some (.int .i64 s.last)∧w.frozen? ⟨g,0,none⟩=false∧w.frozen? ⟨g,1,none⟩=false∧w.heap[g]? = some (.cells #[.slice ao s.l.length cap,.int .i64 s.last] tO (0,0))∧S g∧jR w (fun k=>S k∧k≠g) tU tB ao cap s.l:=by
 obtain⟨ao,cap,h1,h2,h3⟩:=h;exact⟨ao,cap,cell_of_row w g 0 _ _ _ h1,cell_of_row w g 1 _ _ _ h1,frozen_of_row w g 0 _ _ h1,frozen_of_row w g 1 _ _ h1,h1,h2,h3⟩
end
theorem Gy (x y:ByteArray):∀u∈([.string x,.string y]:List Value),u.oneCell'=true:=fun u hu=>by simp at hu;rcases hu with rfl | rfl <;> rfl
theorem prNew (W:World)(x y:ByteArray)(t:Nat){k:Nat}(hk:W.heap.size=k):∀j u,([.string x,.string y]:List Value)[j]? = some u->(W.alloc (.cells #[.string x,.string y] t)).cell? (Addr.add ⟨k,0,none⟩ j)=some u:=fun j u hu=>by
 rw[Addr.add_lit,Nat.zero_add,World.cell?_alloc_at _ _ _ _ hk.symm,List.getElem?_toArray];exact hu
theorem Xg {wb w5:World}{x y:ByteArray}{t:Nat}(h:Below (wb.alloc (.cells #[.string x,.string y] t)).drew.heap.size (wb.alloc (.cells #[.string x,.string y] t)).drew w5):∀j u,([.string x,.string y]:List Value)[j]? = some u->w5.cell? (Addr.add ⟨wb.heap.size,0,none⟩ j)=some u:=fun j u hu=>by
 have h1:=prNew wb x y t rfl j u hu;have h2:(wb.alloc (.cells #[.string x,.string y] t)).drew.cell? (Addr.add ⟨wb.heap.size,0,none⟩ j)=some u:=h1;exact(h.cell (World.block_lt_of_cell? _ _ h2)).trans h2
theorem JC {wb W w6:World}{base t:Nat}{ao:Option Addr}{cap n:Nat}{xs:List Value}{w5:World}(hB:Below wb.heap.size wb W)(hO:aC w5 base t 2 ao cap n xs)(hG:W.grownBy w6 (Value.slice ao n cap).ownBlock)(hz:wb.heap.size<=base):Below wb.heap.size wb w6 :=
 hB.grown hG hB.size (fun q e=>by
  rw[ay] at e;cases ao with
  | none=>cases e
  | some a=>injection e with e;subst e;have:=(hO.block a rfl).1;omega)
def JO:Sp.Up:=⟨0,0,⟨#[]⟩,[],0⟩
theorem LK (n:Nat):(madeCells #[.int .i64 0,.int .i64 0,.string ⟨#[]⟩,.slice none 0 0,.int .i64 0] (n*5)).toList=lX (List.replicate n (JO,⟨none,0⟩)):=by
 refine List.ext_getElem? fun j=>?_;by_cases hj:j<n*5
 . have hm:j=(j / 5)*5+j % 5:=by omega
   have hd:j / 5<n:=by omega
   have hr:j % 5<5:=Nat.mod_lt _ (by decide);have h2:=ng (List.replicate n (JO,⟨none,0⟩)) (j / 5) (by simpa using hd) (j % 5) hr;rw[<-hm] at h2;rw[h2,Array.getElem?_toList];have e5:(#[Value.int .i64 0,.int .i64 0,.string ⟨#[]⟩,.slice none 0 0,.int .i64 0]:Array Value).size=5:=rfl;simp only[madeCells,Array.getElem?_map,List.getElem_replicate];rw[Array.getElem?_range,if_pos hj,e5,Option.map_some];clear h2 hm;generalize j % 5=r at hr ⊢;match r,hr with
   | 0,_=>rfl
   | 1,_=>rfl
   | 2,_=>rfl
   | 3,_=>rfl
   | 4,_=>rfl
 . rw[List.getElem?_eq_none (by simp[madeCells];omega),List.getElem?_eq_none (by rw[kP,List.length_replicate];omega)]
theorem EW:∀(us:List (Sp.Up×qK)) (i:Nat) (_:i<us.length) (x:Sp.Up×qK),(((((lX us).set (i*5) (.int .i64 x.1.id)).set (i*5+1) (.int .i64 x.1.size)).set (i*5+2) (.string x.1.note)).set (i*5+3) (.slice x.2.bo x.1.bytes.length x.2.aj)).set (i*5+4) (.int .i64 x.1.sent)=lX (us.set i x)
 | p::t,0,_,x=>rfl
 | p :: t, i + 1, hi, x => by
   have ih:=EW t i (by simpa using hi) x;have e:∀(a:List Value) (k:Nat) (v:Value),(nM p.1 p.2++a).set ((i+1)*5+k) v=nM p.1 p.2++a.set (i*5+k) v:=fun a k v=>by
    rw[List.set_append_right _ _ (by rw[show(nM p.1 p.2).length=5 from rfl];omega),show(nM p.1 p.2).length=5 from rfl,show(i+1)*5+k-5=i*5+k by omega]
   have e0:∀(a:List Value) (v:Value),(nM p.1 p.2++a).set ((i+1)*5) v=nM p.1 p.2++a.set (i*5) v:=fun a v=>e a 0 v;show(((((nM p.1 p.2++lX t).set ((i+1)*5) _).set _ _).set _ _).set _ _).set _ _=nM p.1 p.2++lX (t.set i x);rw[e0,e,e,e,e,ih]
section
variable {w w':World} {S N:Nat->Prop} {tU tB g cap n:Nat} {l:List Sp.Up}
theorem jR.zeros (h:aC w 0 tU 5 (some ⟨g,0,none⟩) cap n (lX (List.replicate n (JO,⟨none,0⟩))))(hS:S g):jR w S tU tB (some ⟨g,0,none⟩) cap (List.replicate n JO):=by
 refine⟨List.replicate n (JO,⟨none,0⟩),by simp,by rw[List.length_replicate];exact h,fun a e=>by injection e with e;subst e;exact hS,fun x hx=>?_,fun i j x y hx hy _ k kx=>?_⟩
 . rw[List.eq_of_mem_replicate hx];exact aF.nil _ _ _
 . rw[List.eq_of_mem_replicate (List.mem_of_getElem? hx)] at kx;simp[qw,cK,JO] at kx
theorem jR.Z4 {i:Nat}{u:Sp.Up}{bo:Option Addr}{aj bn:Nat}(h:jR w S tU tB (some ⟨g,0,none⟩) cap l)(hi:i<l.length)(hB:aF w N tB bo aj u.bytes)(hN:∀k,N k->¬S k)(hbn:bn=u.bytes.length):
 jR (((((w.setCell ⟨g,i*5,none⟩ (.int .i64 u.id)).setCell ⟨g,i*5+1,none⟩ (.int .i64 u.size)).setCell ⟨g,i*5+2,none⟩ (.string u.note)).setCell ⟨g,i*5+3,none⟩ (.slice bo bn aj)).setCell ⟨g,i*5+4,none⟩ (.int .i64 u.sent)) (fun k=>S k∨N k) tU tB (some ⟨g,0,none⟩) cap (l.set i u) ∧
 Turns (fun k=>k=g) w (((((w.setCell ⟨g,i*5,none⟩ (.int .i64 u.id)).setCell ⟨g,i*5+1,none⟩ (.int .i64 u.size)).setCell ⟨g,i*5+2,none⟩ (.string u.note)).setCell ⟨g,i*5+3,none⟩ (.slice bo bn aj)).setCell ⟨g,i*5+4,none⟩ (.int .i64 u.sent)):=by
 subst hbn;obtain⟨us,rfl,h2,h3,h4,h5⟩:=h;have hi':i<us.length:=by simpa using hi
 have hT:=gB g [.int .i64 u.id,.int .i64 u.size,.string u.note,.slice bo u.bytes.length aj,.int .i64 u.sent] (i*5) w;have hO:=(World.ownsRow.stored (World.ownsRow.stored (World.ownsRow.stored (World.ownsRow.stored (World.ownsRow.stored h2 (i*5) (.int .i64 u.id)).1 (i*5+1) (.int .i64 u.size)).1 (i*5+2) (.string u.note)).1 (i*5+3) (.slice bo u.bytes.length aj)).1 (i*5+4) (.int .i64 u.sent)).1;have hp:=EW us i hi' (u,⟨bo,aj⟩);simp only at hp;rw[hp] at hO;refine⟨⟨us.set i (u,⟨bo,aj⟩),by rw[List.map_set],by rw[List.length_set];exact hO,fun a e=>Or.inl (h3 a e),fun x hx=>?_,h5.set i fun j y hy _ k ky kx=>?_⟩,hT⟩
 . have Xc:=h3 _ rfl;rcases List.mem_or_eq_of_mem_set hx with hx | hx
   . exact(h4 x hx).over hT (fun k e _ _=>⟨fun e2=>e.2 (by subst e2;rfl),Or.inl e.1,e.2⟩)
   . subst hx;exact hB.over hT (fun k e _ _=>⟨fun e2=>hN k e (by subst e2;exact Xc),Or.inr e,fun e2=>hN k e (by injection e2 with e2;subst e2;exact Xc)⟩)
 . exact hN k (hB.blk kx).1 ((h4 y (List.mem_of_getElem? hy)).blk ky).1.1
end
theorem LM (l:List Sp.Up)(k:Nat)(hk:k<l.length):(l.take k++List.replicate (l.length-k) JO).set k l[k]=l.take (k+1)++List.replicate (l.length-(k+1)) JO:=by
 have e:l.length-k=(l.length-(k+1))+1:=by omega
 have hlen:(l.take k).length=k:=by rw[List.length_take];omega
 rw[e,List.replicate_succ,List.set_append_right _ _ (by omega),hlen,Nat.sub_self,List.set_cons_zero,List.take_succ_eq_append_getElem hk,List.append_assoc];rfl
end Go.Proofs.YtjmndjmhjleabaaGreatDoor