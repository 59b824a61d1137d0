/- Small texts, one behind the other: MemG, MemUC, MemUD, MemVA, MemPr, MemUE. -/
import Derived.Test.YtjmndjmhjleabaaGreatDoorAl
import Derived.Test.YtjmndjmhjleabaaGreatDoorAm
import Derived.Test.YtjmndjmhjleabaaGreatDoorPk11
import Derived.Test.YtjmndjmhjleabaaGreatDoorPk14
import Derived.Deep.AppendLies
import Derived.Test.YtjmndjmhjleabaaGreatDoorPk13
import Derived.Laws.IdiomCopy
namespace Go.Proofs.YtjmndjmhjleabaaGreatDoor
open Go.RowKit
def jN (l:av)(bo:ak):Option Nat:=if l=[] then none else gL bo
section
variable {P:Program} (w:World)
theorem run_append_nothing (t ty e:TypeId)(i:TypeInfo)(ht:P.underlying t=some (.slice e))(hi:P.info? e=some i)(bo AX:ak)(n cap cap2:Nat)(hn:n<=cap):
 (Builtin.append_ #[t,t] ty #[.slice bo n cap,.slice AX 0 cap2]).run P w=.ok (.slice bo n cap) w:=by
 cases bo <;> cases AX <;> simp[Builtin.append_,run_underlying ht,sizeOf,typeInfo,hi,Builtin.lenOf,Builtin.firstCells,loadCells,loadCellsFrom,storeCells,hn]
theorem AY (t ty e:TypeId)(i:TypeInfo)(ht:P.underlying t=some (.slice e))(hi:P.info? e=some i)(hz:i.zero=some (.int .u8 0))(hz1:i.size=1)(hz2:i.bytes=1)
 {S:Nat->Prop} {bo AX:ak} {gK cap2 n n2:Nat} {l l2:av} (h:gZ w S e bo gK l) (hn:l.length=n) (hs:iH w AX cap2 l2) (hn2:l2.length=n2) (hlen:n+n2<=140737488355328) :
 ∃oG cap' w', (Builtin.append_ #[t, t] ty #[.slice bo n gK, .slice AX n2 cap2]).run P w = .ok (.slice oG (n + n2) cap') w' ∧
   gZ w' (fun k=>jN l bo=some k∨w.heap.size<=k) e oG cap' (l++l2)∧Turns (fun k=>jN l bo=some k) w w':=by
 subst hn;subst hn2;by_cases h2:l2=[]
 . subst h2;refine⟨bo,gK,w,?_,?_,Turns.refl _ _⟩
   . have hc:l.length<=gK:=h.xg.1;exact run_append_nothing w t ty e i ht hi bo AX l.length gK cap2 hc
   . rw[bW];rcases h with ⟨h1,h2,_⟩ | h
     . exact Or.inl ⟨h1,h2,fun a e=>Or.inl (by unfold jN;rw[if_neg h1,e];rfl)⟩
     . exact Or.inr h
 . have hpos:0<l2.length:=fE.2 h2;obtain⟨a2,rfl⟩:=hs.some hpos;have hcell:∀j u,(jk l2)[j]? = some u->w.cell? (a2.add j)=some u:=fun j u hu=>by
    have hj:j<l2.length:=by
     have:=(aQ.1 hu).1;rwa[iq] at this
    rw[lS l2 j hj] at hu;injection hu with hu;subst hu;exact hs.cell j hj
   rcases h with ⟨h1,hown,hm⟩ | ⟨rfl,rfl⟩
   . obtain⟨g,cap',w',hr,hO,hG,hat,_⟩:=run_append_lies (P:=P) w t ty 0 e i (.int .u8 0) 1 1 ht hi hz hz1 hz2 rfl (by decide) (.slice bo l.length gK) l.length (jk l) hown a2 l2.length cap2 (jk l2) (by rw[iq];omega) hcell (wZ l2) hpos (by unfold maxLen;omega) (by omega) (aA _) w.heap.size rfl;rw[gP] at hG hat;have eB:jN l bo=gL bo:=by unfold jN;rw[if_neg h1]
     refine⟨_,cap',w',hr,Or.inl ⟨by simp[h1],?_,fun a e=>?_⟩,Turns.iZ hG (fun k e=>by rw[eB];exact e)⟩
     . unfold iF;rw[qA,aW];exact hO
     . injection e with e;subst e;rcases hat with hat | hat
       . exact Or.inl (by rw[eB];exact hat)
       . exact Or.inr (by show w.heap.size<=g;omega)
   . have hold:(Builtin.firstCells i.size 0 (.slice bo 0 0)).run P w.drew=.ok ([]:List Value).toArray w.drew:=by
      cases bo <;> simp[Builtin.firstCells,loadCells,loadCellsFrom]
     have hr:=run_append_grow_src (P:=P) w t t ty e i (.int .u8 0) ht hi hz bo 0 0 [] hold (.slice (some a2) l2.length cap2) l2.length (jk l2) (by rw[hz1];exact Src.ofSlice _ ht a2 _ cap2 _ (by rw[iq];omega) hcell (wZ l2)) (by omega) (by omega) (by rw[hz2];exact growslice_fits (by omega) (by omega));have hge:=grownCap_ge w (0+l2.length) 0 e;have hle:=grownCap_le_maxLen w (0+l2.length) 0 e (by unfold maxLen;omega);generalize grownCap w (0+l2.length) 0 e=cap' at hr hge hle;refine⟨_,cap',_,hr,Or.inl ⟨by simpa using h2,?_,fun a e=>?_⟩,⟨rfl,rfl,rfl,by simp,fun k hk _=>Below.heap_alloc w.drew _ k hk⟩⟩
     . rw[dz];have hzc:(Value.int IntKind.u8 0).cells.size=1:=rfl;have hge':l2.length<=cap':=by omega
       refine⟨by rw[iq];omega,.inr ⟨w.heap.size,cap',_,by simp,aA _,fI w.drew _,hge',hle,?_,?_⟩⟩
       . simp only[Array.size_append,bM,iq,size_zeroCells,hzc];omega
       . simp only[Array.toList_append,dz,Nat.mul_one];rw[<-iq l2];exact List.take_left
     . injection e with e;subst e;exact Or.inr (aM _)
end
section
variable {P:Program} {w:World}
theorem vG {o:Oper}{a:Act}{K:Act->World->Prop}{Q:Exit->Act->World->Prop}(s x:Operand)(t:TypeId)
 (ho:o.op=.call { callee:=.builtin .append,args:=#[s,x],argTypes:=#[t,t] })
 (e:TypeId) (i:TypeInfo) (ht:P.underlying t=some (.slice e)) (hi:P.info? e=some i) (hz:i.zero=some (.int .u8 0)) (hz1:i.size=1) (hz2:i.bytes=1)
 {S:Nat->Prop} {bo AX:ak} {gK cap2 n n2:Nat} {l l2:av} (hs:a.eval s=.slice bo n gK) (hx:a.eval x=.slice AX n2 cap2) (hg:gZ w S e bo gK l) (hn:l.length=n) (hb:iH w AX cap2 l2) (hn2:l2.length=n2) (hlen:n+n2<=140737488355328)
 (h:∀oG cap' w',gZ w' (fun k=>jN l bo=some k∨w.heap.size<=k) e oG cap' (l++l2)->Turns (fun k=>jN l bo=some k) w w'->K (a.put o.dst (.slice oG (n+n2) cap')) w'):o.wp P a w K Q:=by
 obtain⟨oG,cap',w',hr,h2,h3⟩:=AY (P:=P) w t o.type e i ht hi hz hz1 hz2 hg hn hb hn2 hlen;unfold Oper.wp execOp;simp only[ho,resolve,invoke,builtin,Sem.run_bind,Sem.run_pure,Result.andThen_ok,List.map_toArray,List.map_cons,List.map_nil,hs,hx,hr];exact h oG cap' w' h2 h3
theorem nD {ops:Array Oper}{rest:List Oper}{o:Oper}{a:Act}{Q:Exit->Act->World->Prop}(hgd:o.guard=none)(s x:Operand)(t:TypeId)
 (ho:o.op=.call { callee:=.builtin .append,args:=#[s,x],argTypes:=#[t,t] })
 (e:TypeId) (i:TypeInfo) (ht:P.underlying t=some (.slice e)) (hi:P.info? e=some i) (hz:i.zero=some (.int .u8 0)) (hz1:i.size=1) (hz2:i.bytes=1)
 {S:Nat->Prop} {bo AX:ak} {gK cap2 n n2:Nat} {l l2:av} (hs:a.eval s=.slice bo n gK) (hx:a.eval x=.slice AX n2 cap2) (hg:gZ w S e bo gK l) (hn:l.length=n) (hb:iH w AX cap2 l2) (hn2:l2.length=n2) (hlen:n+n2<=140737488355328)
 (h:∀oG cap' w',gZ w' (fun k=>jN l bo=some k∨w.heap.size<=k) e oG cap' (l++l2)->Turns (fun k=>jN l bo=some k) w w'->wpList P ops Q rest (a.put o.dst (.slice oG (n+n2) cap')) w'):wpList P ops Q (o::rest) a w :=
 wpList_plain hgd fun _ hK=>vG s x t ho e i ht hi hz hz1 hz2 hs hx hg hn hb hn2 hlen fun oG cap' w' h2 h3=>hK _ _ (h oG cap' w' h2 h3)
theorem oh {ops:Array Oper}{o:Oper}{a:Act}{K:Act->World->Prop}{Q:Exit->Act->World->Prop}{E:Prop}(hgd:o.guard=none)(s x:Operand)(t:TypeId)
 (ho:o.op=.call { callee:=.builtin .append,args:=#[s,x],argTypes:=#[t,t] })
 (e:TypeId) (i:TypeInfo) (ht:P.underlying t=some (.slice e)) (hi:P.info? e=some i) (hz:i.zero=some (.int .u8 0)) (hz1:i.size=1) (hz2:i.bytes=1)
 {S:Nat->Prop} {bo AX:ak} {gK cap2 n n2:Nat} {l l2:av} (hs:a.eval s=.slice bo n gK) (hx:a.eval x=.slice AX n2 cap2) (hg:gZ w S e bo gK l) (hn:l.length=n) (hb:iH w AX cap2 l2) (hn2:l2.length=n2) (hlen:n+n2<=140737488355328)
 (h:∀oG cap' w',gZ w' (fun k=>jN l bo=some k∨w.heap.size<=k) e oG cap' (l++l2)->Turns (fun k=>jN l bo=some k) w w'->K (a.put o.dst (.slice oG (n+n2) cap')) w') :
 if Region.wanted o (yielded ops a.tmps)=true then Oper.wp P o a w K Q else E:=by
 have hw:Region.wanted o (yielded ops a.tmps)=true:=by simp[Region.wanted,hgd]
 rw[if_pos hw];exact vG s x t ho e i ht hi hz hz1 hz2 hs hx hg hn hb hn2 hlen h
end
section
variable {w w':World} {S S' T:Nat->Prop} {t:Nat} {ao:ak} {cap:Nat} {l:av}
theorem gZ.blk (h:gZ w S t ao cap l){k:Nat}(e:jN l ao=some k):S k∧k<w.heap.size:=by
 unfold jN at e;split at e
 . cases e
 . rename_i hl;rcases h with ⟨_,h2,h3⟩ | ⟨h1,_⟩
   . cases ao with
     | none=>cases e
     | some a=>injection e with e;subst e;exact⟨h3 a rfl,(h2.block a rfl).2⟩
   . exact absurd h1 hl
theorem gZ.over (h:gZ w S t ao cap l)(ht:Turns T w w')(hn:∀k,S k->jN l ao=some k->k<w.heap.size->¬T k∧S' k):gZ w' S' t ao cap l:=by
 rcases h with ⟨h1,h2,h3⟩ | h
 . have hb:∀a,ao=some a->¬T a.block∧S' a.block:=fun a e=>hn _ (h3 a e) (by unfold jN;rw[if_neg h1,e];rfl) (h2.block a e).2;exact Or.inl ⟨h1,h2.turns ht (fun a e=>(hb a e).1),fun a e=>(hb a e).2⟩
 . exact Or.inr h
theorem gZ.to (h:gZ w S t ao cap l)(hn:∀k,S k->jN l ao=some k->k<w.heap.size->S' k):gZ w S' t ao cap l:=h.over (Turns.refl (fun _=>False) w) (fun k a b c=>⟨fun e=>e,hn k a b c⟩)
end
def yw (x:Sp.Up×yQ):Option Nat:=jN x.1.bytes x.2.bo
def Apart (us:List (Sp.Up×yQ)):Prop:=∀(i j:Nat) (x y:Sp.Up×yQ),us[i]? = some x->us[j]? = some y->i≠j->∀k,yw x=some k->yw y≠some k
theorem vR {α:Type}{x b:α}{n:Nat}(h:[x][n]? = some b):n=0∧b=x:=by
 cases n with
 | zero=>exact⟨rfl,by simpa using h.symm⟩
 | succ n=>simp at h
theorem Apart.nil:Apart []:=fun i j x y h=>by simp at h
theorem Apart.push {us:List (Sp.Up×yQ)}{x:Sp.Up×yQ}(h:Apart us)(hx:∀y∈us,∀k,yw y=some k->yw x≠some k):Apart (us++[x]):=by
 intro i j a b ha hb hij k ka kb;rcases aU i us.length with hi | hi
 . rw[aY hi] at ha;rcases aU j us.length with hj | hj
   . rw[aY hj] at hb;exact h i j a b ha hb hij k ka kb
   . rw[bA hj] at hb;obtain⟨_,rfl⟩:=vR hb;exact hx a (dL ha) k ka kb
 . rw[bA hi] at ha;obtain⟨e1,rfl⟩:=vR ha;rcases aU j us.length with hj | hj
   . rw[aY hj] at hb;exact hx b (dL hb) k kb ka
   . rw[bA hj] at hb;obtain⟨e2,_⟩:=vR hb;omega
theorem Apart.set {us:List (Sp.Up×yQ)}{x:Sp.Up×yQ}(h:Apart us)(i:Nat)(hx:∀j y,us[j]? = some y->j≠i->∀k,yw y=some k->yw x≠some k):Apart (us.set i x):=by
 intro a b p q ha hb hab k kp kq;rw[eG] at ha hb;split at ha
 . rename_i e1;split at hb
   . rename_i e2;omega
   . rename_i e2;split at ha
     . injection ha with ha;subst ha;exact hx b q hb (fun e=>e2 e.symm) k kq kp
     . cases ha
 . rename_i e1;split at hb
   . split at hb
     . injection hb with hb;subst hb;exact hx a p ha (fun e=>e1 e.symm) k kp kq
     . cases hb
   . exact h a b p q ha hb hab k kp kq
theorem Apart.erase {us:List (Sp.Up×yQ)}(h:Apart us)(i:Nat):Apart (us.eraseIdx i):=by
 intro a b p q ha hb hab k kp kq;rw[List.getElem?_eraseIdx] at ha hb;split at ha <;> split at hb
 . exact h a b p q ha hb hab k kp kq
 . exact h a (b+1) p q ha hb (by omega) k kp kq
 . exact h (a+1) b p q ha hb (by omega) k kp kq
 . exact h (a+1) (b+1) p q ha hb (by omega) k kp kq
def qF (w:World)(S:Nat->Prop)(tU tB:Nat)(ao:ak)(cap:Nat)(l:List Sp.Up):Prop :=
 ∃us:List (Sp.Up×yQ),us.map (·.1)=l∧gV w 0 tU 5 ao cap l.length (tN us)∧(∀a,ao=some a->S a.block)∧(∀x∈us,gZ w (fun k=>S k∧gL ao≠some k) tB x.2.bo x.2.gK x.1.bytes)∧Apart us
section
variable {w w' w1:World} {S S' N:Nat->Prop} {tU tB:Nat} {ao:ak} {cap:Nat} {l:List Sp.Up}
theorem qF.nil (w:World)(S:Nat->Prop)(tU tB:Nat):qF w S tU tB none 0 []:=⟨[],rfl,gV.nil _ _ _ _,fun a e=>(by cases e),fun p hp=>(by cases hp),Apart.nil⟩
theorem qF.at_ (h:qF w S tU tB ao cap l):K7 w S tU ao cap l:=by
 obtain⟨us,h1,h2,h3,h4,_⟩:=h;exact⟨us,h1,h2,h3,fun x hx=>(h4 x hx).adX⟩
theorem qF.zL (h:qF w S tU tB ao cap l):pW w ao cap l:=h.at_.zL
theorem qF.cap_ (h:qF w S tU tB ao cap l):l.length<=cap:=by
 obtain⟨us,h1,h2,h3,h4,_⟩:=h;exact h2.nQ.1
theorem qF.turns (h:qF w S tU tB ao cap l)(ht:Turns S' w w')(hs:∀k,S k->¬S' k):qF w' S tU tB ao cap l:=by
 obtain⟨us,h1,h2,h3,h4,h5⟩:=h;exact⟨us,h1,h2.turns ht (fun a e=>hs _ (h3 a e)),h3,fun x hx=>(h4 x hx).turns ht (fun k e=>hs k e.1),h5⟩
theorem qF.mono (h:qF w S tU tB ao cap l)(hs:∀k,k<w.heap.size->S k->S' k):qF w S' tU tB ao cap l:=by
 obtain⟨us,h1,h2,h3,h4,h5⟩:=h;exact⟨us,h1,h2,fun a e=>hs _ (h2.block a e).2 (h3 a e),fun x hx=>(h4 x hx).mono (fun k hk e=>⟨hs k hk e.1,e.2⟩),h5⟩
theorem qF.stay (h:qF w S tU tB ao cap l)(hb:aj w w'):qF w' S tU tB ao cap l:=h.turns (Turns.of_below (S:=fun _=>False) hb) (fun _ _ e=>e)
theorem BM {S:Nat->Prop}(h3:∀a,ao=some a->S a.block):∀k,gL ao=some k->S k:=fun k e=>by
 cases ao with
 | none=>cases e
 | some a=>injection e with e;subst e;exact h3 a rfl
theorem qF.push {W:World}(h:qF W S tU tB ao cap l)(ob:Obj):∃xs,gV (W.alloc ob) 0 tU 5 ao cap l.length xs ∧
 ∀gW cap' w' (u:Sp.Up) (s:yQ) (N:Nat->Prop),gZ W N tB s.bo s.gK u.bytes->(∀k,S k->¬N k)->gV w' 0 tU 5 gW cap' (l.length+1) (xs++vF u s)->(W.alloc ob).grownBy w' (gL ao)->(gL gW=gL ao∨gL gW=some (W.alloc ob).heap.size)->qF w' (fun k=>S k∨N k∨W.heap.size<=k) tU tB gW cap' (l++[u])∧Turns S W w':=by
 obtain⟨us,h1,h2,h3,h4,h5⟩:=h;have hb:aj W (W.alloc ob):=(fJ _ _).alloc (aM _) _;have UJ:=BM h3;refine⟨tN us,h2.stay hb,fun gW cap' w' u s N hB hN Ao hG hat=>?_⟩;have hT:Turns (fun k=>gL ao=some k) W w':=(Turns.of_below hb).trans (Turns.iZ hG (fun k e=>e)) (fun _ e _=>e);have hne:∀k,k<W.heap.size->gL ao≠some k->gL gW≠some k:=fun k hk h e=>by
  rcases hat with g | g
  . rw[g] at e;exact h e
  . rw[g,fZ] at e;injection e with e;omega
 refine⟨⟨us++[(u,s)],by simp[h1],by rw[uQ,Zg,aW];exact Ao,fun a e=>?_,fun x hx=>?_,h5.push fun y hy k ky kx=>hN k ((h4 y hy).blk ky).1.1 (hB.blk kx).1⟩,hT.mono (fun k e=>UJ k e)⟩
 . subst e;rcases hat with g | g
   . exact Or.inl (UJ _ (g.symm.trans rfl))
   . rw[fZ] at g;injection g with g;exact Or.inr (Or.inr (by omega))
 . rcases bB.1 hx with hx | hx
   . exact(h4 x hx).over hT (fun k e _ hk=>⟨e.2,Or.inl e.1,hne k hk e.2⟩)
   . rw[bC.1 hx];have hno:∀k,N k->gL ao≠some k:=fun k hk e=>hN k (UJ k e) hk;exact hB.over hT (fun k e _ hk=>⟨hno k e,Or.inr (Or.inl e),hne k hk (hno k e)⟩)
theorem qF.put {g i j:Nat}{v:Value}{u:Sp.Up}(h:qF w S tU tB (some ⟨g,0,none⟩) cap l)(hi:i<l.length)(hj:j<5)(hv:∀s,(vF l[i] s).set j v=vF u s)(hb:u.bytes=l[i].bytes):qF (w.setCell ⟨g,i*5+j,none⟩ v) S tU tB (some ⟨g,0,none⟩) cap (l.set i u)∧Turns (fun k=>k=g) w (w.setCell ⟨g,i*5+j,none⟩ v):=by
 obtain⟨us,rfl,h2,h3,h4,h5⟩:=h;have hi':i<us.length:=by simpa using hi
 have hS:Turns (fun k=>k=g) w (w.setCell ⟨g,i*5+j,none⟩ v):=Turns.setCell (fun k=>k=g) w _ _ rfl;have hb':u.bytes=us[i].1.bytes:=by rw[hb,aG]
 have hblk:yw (u,us[i].2)=yw us[i]:=by unfold yw;simp only;rw[hb']
 refine⟨⟨us.set i (u,us[i].2),by rw[List.map_set],?_,h3,fun x hx=>?_,h5.set i fun j y hy hj k ky kx=>?_⟩,hS⟩
 . have K8:=(fV h2 (i*5+j) v).1;rw[Ed us i hi' j v (u,us[i].2) hj (by have:=hv us[i].2;rw[aG] at this;exact this)] at K8;rw[aP];exact K8
 . have ht:∀y:Sp.Up×yQ,gZ w (fun k=>S k∧gL (some ⟨g,0,none⟩)≠some k) tB y.2.bo y.2.gK y.1.bytes->gZ (w.setCell ⟨g,i*5+j,none⟩ v) (fun k=>S k∧gL (some ⟨g,0,none⟩)≠some k) tB y.2.bo y.2.gK y.1.bytes:=fun y hy=>hy.turns hS (fun k e e2=>e.2 (by subst e2;rfl));rcases List.mem_or_eq_of_mem_set hx with hx | hx
   . exact ht x (h4 x hx)
   . subst hx;have:=ht us[i] (h4 us[i] (aC hi'));show gZ _ _ _ us[i].2.bo us[i].2.gK u.bytes;rw[hb'];exact this
 . rw[hblk] at kx;exact h5 j i y us[i] hy (dD hi') hj k ky kx
theorem qF.lies (h:qF w S tU tB ao cap l)(i:Nat)(hi:i<l.length):∃(g:Nat) (s:yQ),ao=some ⟨g,0,none⟩∧S g∧g<w.heap.size∧w.cell? ⟨g,i*5,none⟩=some (.int .i64 l[i].id)∧w.cell? ⟨g,i*5+1,none⟩=some (.int .i64 l[i].size)∧w.cell? ⟨g,i*5+2,none⟩=some (.string l[i].note)∧w.cell? ⟨g,i*5+3,none⟩=some (.slice s.bo l[i].bytes.length s.gK)∧w.cell? ⟨g,i*5+4,none⟩=some (.int .i64 l[i].sent)∧(∀j,w.frozen? ⟨g,j,none⟩=false)∧gZ w (fun k=>S k∧k≠g) tB s.bo s.gK l[i].bytes ∧
 ∀w1 oG kD bs n,gZ w1 (fun k=>jN l[i].bytes s.bo=some k∨w.heap.size<=k) tB oG kD bs->Turns (fun k=>jN l[i].bytes s.bo=some k) w w1->n=bs.length->qF (w1.setCell ⟨g,i*5+3,none⟩ (.slice oG n kD)) (gN S w) tU tB (some ⟨g,0,none⟩) cap (l.set i { l[i] with bytes:=bs })∧Turns S w (w1.setCell ⟨g,i*5+3,none⟩ (.slice oG n kD)):=by
 have hU:=h.zL.at_ i hi;obtain⟨g,hg,hSg,_,_⟩:=h.at_.row i hi;subst hg;obtain⟨us,rfl,h2,h3,h4,h5⟩:=h;have hi':i<us.length:=by simpa using hi
 have hc:∀j,j<5->w.cell? ⟨g,i*5+j,none⟩=(vF us[i].1 us[i].2)[j]?:=fun j hj=>by
  rw[fT h2 (i*5+j) (by omega),uR us i hi' j hj]
 have hx:=h4 _ (aC hi');have hxg:gZ w (fun k=>S k∧k≠g) tB us[i].2.bo us[i].2.gK us[i].1.bytes:=hx.to (fun k e _ _=>⟨e.1,fun e2=>e.2 (by subst e2;rfl)⟩);simp only[aG];refine⟨g,us[i].2,rfl,hSg,(h2.block _ rfl).2,hc 0 (by decide),hc 1 (by decide),hc 2 (by decide),hc 3 (by decide),hc 4 (by decide),fun j=>fU h2 j,hxg,fun w1 oG kD bs n hB hT hn=>?_⟩;subst hn;have hlast:∀k,jN us[i].1.bytes us[i].2.bo=some k->S k∧k≠g:=fun k e=>(hxg.blk e).1;have hgl:g<w.heap.size:=(h2.block _ rfl).2;have jV:Turns S w (w1.setCell ⟨g,i*5+3,none⟩ (.slice oG bs.length kD)):=(hT.mono (fun k e=>(hlast k e).1)).trans (Turns.setCell S w1 _ _ hSg) (fun _ e _=>e);have hS:Turns (fun k=>k=g) w1 (w1.setCell ⟨g,i*5+3,none⟩ (.slice oG bs.length kD)):=Turns.setCell (fun k=>k=g) w1 _ _ rfl;have K9:gV w1 0 tU 5 (some ⟨g,0,none⟩) cap (us.map (·.1)).length (tN us):=h2.turns hT (fun a e h=>by injection e with e;subst e;exact(hlast _ h).2 rfl);refine⟨⟨us.set i ({ us[i].1 with bytes:=bs },⟨oG,kD⟩),by rw[List.map_set],?_,fun a e=>Or.inl (h3 a e),fun x hx2=>?_,h5.set i fun j y hy hj k ky kx=>?_⟩,jV⟩
 . have K8:=(fV K9 (i*5+3) (.slice oG bs.length kD)).1;rw[Ed us i hi' 3 _ ({ us[i].1 with bytes:=bs },⟨oG,kD⟩) (by decide) rfl] at K8;rw[aP];exact K8
 . obtain⟨j,hj⟩:=List.getElem?_of_mem hx2;rw[eG] at hj;split at hj
   . rename_i e;first | rw[if_pos hi'] at hj | skip
     injection hj with hj;subst hj;refine(hB.to (S':=fun k=>gN S w k∧k≠g) (fun k h _ _=>?_)).over hS (fun k e _ _=>⟨e.2,e.1,fun e2=>e.2 (by injection e2 with e2;exact e2.symm)⟩);rcases h with h | h
     . exact⟨Or.inl (hlast k h).1,(hlast k h).2⟩
     . exact⟨Or.inr h,by omega⟩
   . rename_i e;have hm:=dL hj;have hg1:gZ w1 (fun k=>S k∧k≠g) tB x.2.bo x.2.gK x.1.bytes:=(h4 x hm).over hT (fun k e1 e2 _=>⟨fun e3=>h5 j i x us[i] hj (dD hi') (fun e4=>e e4.symm) k e2 e3,e1.1,fun e5=>e1.2 (by subst e5;rfl)⟩);exact hg1.over hS (fun k e _ _=>⟨e.2,Or.inl e.1,fun e2=>e.2 (by injection e2 with e2;exact e2.symm)⟩)
 . rcases(hB.blk kx).1 with e | e
   . exact h5 j i y us[i] hy (dD hi') hj k ky e
   . have:=((h4 y (dL hy)).blk ky).2;omega
theorem R5 (us:List (Sp.Up×yQ))(i:Nat):tN (us.eraseIdx i)=tN (us.take i)++tN (us.drop (i+1)):=by rw[List.eraseIdx_eq_take_drop_succ,uQ]
theorem qF.drop (h:qF w S tU tB ao cap l)(i:Nat)(hi:i<l.length):∃us:List (Sp.Up×yQ),us.length=l.length∧gV w 0 tU 5 ao cap l.length (tN us) ∧
 ∀w' gW cap',gV w' 0 tU 5 gW cap' (l.length-1) (tN (us.eraseIdx i))->Turns (fun k=>gL ao=some k) w w'->(∀k,gL gW=some k->gL ao=some k∨w.heap.size<=k)->qF w' (gN S w) tU tB gW cap' (l.eraseIdx i)∧Turns S w w':=by
 obtain⟨us,rfl,h2,h3,h4,h5⟩:=h;have UJ:=BM h3;refine⟨us,by simp,h2,fun w' gW cap' hO hT hat=>⟨⟨us.eraseIdx i,by simp[List.eraseIdx_eq_take_drop_succ,List.map_take,List.map_drop],?_,fun a e=>?_,fun x hx=>?_,h5.erase i⟩,hT.mono UJ⟩⟩
 . rw[List.length_eraseIdx_of_lt hi];exact hO
 . subst e;rcases hat _ rfl with g | g
   . exact Or.inl (UJ _ g)
   . exact Or.inr g
 . refine(h4 x (List.mem_of_mem_eraseIdx hx)).over hT (fun k e _ hk=>⟨e.2,Or.inl e.1,fun e2=>?_⟩);rcases hat k e2 with g | g
   . exact e.2 g
   . omega
end
def zM:List Value->Nat->List Value->List Value
 | xs,_,[]=>xs
 | xs,o,v::vs=>zM (xs.set o v) (o+1) vs
theorem Ef:∀(vs xs:List Value) (o j:Nat),(zM xs o vs)[j]? = if o<=j∧j<o+vs.length∧j<xs.length then vs[j-o]? else xs[j]?
 | [], xs, o, j => by
   rw[zM,if_neg];simp only[cu];omega
 | v :: vs, xs, o, j => by
   rw[zM,Ef vs (xs.set o v) (o+1) j,aP,aX];by_cases hj:j=o
   . subst hj;rw[if_neg (by omega),eG,if_pos rfl];by_cases hl:j<xs.length
     . rw[if_pos hl,if_pos (by omega),Nat.sub_self];rfl
     . rw[if_neg hl,if_neg (by omega),eU (by omega)]
   . have hjo:¬o=j:=fun e=>hj e.symm;rw[eG,if_neg hjo];by_cases hc:o+1<=j∧j<o+1+vs.length∧j<xs.length
     . rw[if_pos hc,if_pos (by omega),show j-o=(j-(o+1))+1 by omega,List.getElem?_cons_succ]
     . rw[if_neg hc,if_neg (by omega)]
theorem zN:∀(vs xs:List Value) (o:Nat),(zM xs o vs).length=xs.length
 | [],_,_=>rfl
 | v::vs,xs,o=>by rw[zM,zN vs,aP]
section
variable {w w':World} {S S':Nat->Prop} {t k g cap n:Nat} {xs:List Value}
theorem gV.lays:∀(vs:List Value) (o:Nat) {xs:List Value} {w:World},gV w 0 t k (some ⟨g,0,none⟩) cap n xs->gV (w.setCells g o vs) 0 t k (some ⟨g,0,none⟩) cap n (zM xs o vs)
 | [],_,_,_,h=>h
 | v::vs,o,xs,w,h=>by rw[World.setCells,zM];exact gV.lays vs (o+1) (fV h o v).1
theorem mM (g:Nat):∀(vs:List Value) (o:Nat) (w:World),Turns (fun k=>k=g) w (w.setCells g o vs)
 | [],_,w=>Turns.refl _ w
 | v::vs,o,w=>by rw[World.setCells];exact(Turns.setCell (fun k=>k=g) w _ _ rfl).trans (mM g vs (o+1) _) (fun _ e _=>e)
theorem gV.less (h:gV w 0 t k (some ⟨g,0,none⟩) cap n xs)(m:Nat)(hm:m<=n):gV w 0 t k (some ⟨g,0,none⟩) cap m (xs.take (m*k)):=by
 have hl:=h.1;have hmk:m*k<=n*k:=Nat.mul_le_mul_right k hm;refine⟨by rw[bY];omega,?_⟩;rcases h.2 with ⟨e,_⟩ | ⟨g',cap',cur,e,hg,hh,hn,hc,hs,ht⟩
 . simp at e
 . injection e with e1 e2 e3;injection e1 with e1;injection e1 with e1;subst e1;subst e3;exact Or.inr ⟨g,cap,cur,rfl,hg,hh,by omega,hc,hs,by rw[<-ht,List.take_take,dV hmk]⟩
theorem gV.gone (h:gV w 0 t k (some ⟨g,0,none⟩) cap n xs)(i:Nat)(hi:i<n)(zs:List Value):gV ((w.setCells g (i*k) (xs.drop ((i+1)*k))).setCells g ((n-1)*k) zs) 0 t k (some ⟨g,0,none⟩) cap (n-1) (xs.take (i*k)++xs.drop ((i+1)*k)):=by
 have hl:=h.1;have h1:=((h.lays (xs.drop ((i+1)*k)) (i*k)).lays zs ((n-1)*k)).less (n-1) (by omega);have hik:(i+1)*k=i*k+k:=Nat.succ_mul i k;have hnk:n*k=(n-1)*k+k:=by rw[<-Nat.succ_mul,show(n-1).succ=n by omega]
 have hin:i*k<=(n-1)*k:=Nat.mul_le_mul_right k (by omega);refine(bE (gV _ 0 t k (some ⟨g,0,none⟩) cap (n-1)) ?_).mp h1;refine List.ext_getElem? fun j=>?_;rw[List.getElem?_take,List.getElem?_append,bY,List.getElem?_take,List.getElem?_drop];by_cases hj:j<(n-1)*k
 . rw[if_pos hj,Ef,if_neg (by omega),Ef,bV];by_cases hji:j<i*k
   . rw[if_neg (by omega),if_pos (by omega),if_pos hji]
   . rw[if_pos (by omega),if_neg (by omega),List.getElem?_drop,dV (by omega)]
 . rw[if_neg hj,if_neg (by omega),eU (by omega)]
end
theorem FX {P:Program}(w:World)(t e ty:TypeId)(z:Value)(ht:P.underlying t=some (.slice e))(hv:∀w,(zeroValue e).run P w=.ok z w)(h1:∀v∈z.cells.toList,v.oneCell'=true)(b o c:Nat)
 (hc:∀j,j<z.cells.size->(w.cell? ⟨b,o+j,none⟩).isSome=true) (hf:∀j,j<z.cells.size->w.frozen? ⟨b,o+j,none⟩=false) :
 (Builtin.clear_ #[t] ty #[.slice (some ⟨b,o,none⟩) 1 c]).run P w=.ok (.tuple #[]) (w.setCells b o z.cells.toList):=by
 have hzc:Builtin.zeroCells z.cells 1=z.cells:=by
  apply Array.ext
  . simp[Builtin.zeroCells]
  . intro i h1 h2;simp[Builtin.zeroCells,Nat.mod_eq_of_lt h2];exact getElem!_pos z.cells i h2
 have hst:=run_storeCells_cells (P:=P) b o z.cells.toList 0 w (by simpa using hc) (by simpa using hf) h1;simp only[bK] at hst;simp[Builtin.clear_,run_underlying ht,hv,hzc,hst]
def om (w:World)(S:Nat->Prop)(tO tU tB g:Nat)(s:Sp.St):Prop:=∃ao cap,w.heap[g]? = some (.cells #[.slice ao s.l.length cap,.int .i64 s.last] tO (0,0))∧S g∧qF w (fun k=>S k∧k≠g) tU tB ao cap s.l
section
variable {w w' w1:World} {S S' N:Nat->Prop} {tO tU tB g:Nat} {s:Sp.St}
theorem om.turns (h:om w S tO tU tB g s)(ht:Turns S' w w')(hs:∀k,S k->¬S' k):om w' S tO tU tB g s:=by
 obtain⟨ao,cap,h1,h2,h3⟩:=h;exact⟨ao,cap,ht.row h1 (hs g h2),h2,h3.turns ht (fun k e=>hs k e.1)⟩
theorem om.lt (h:om w S tO tU tB g s):g<w.heap.size:=by
 obtain⟨ao,cap,h1,h2,h3⟩:=h;exact(aL.1 h1).1
theorem om.mono (h:om w S tO tU tB g s)(hs:∀k,k<w.heap.size->S k->S' k):om w S' tO tU tB g s:=by
 have hl:=h.lt;obtain⟨ao,cap,h1,h2,h3⟩:=h;exact⟨ao,cap,h1,hs g hl h2,h3.mono (fun k hk e=>⟨hs k hk e.1,e.2⟩)⟩
theorem om.stay (h:om w S tO tU tB g s)(hb:aj w w'):om w' S tO tU tB g s:=h.turns (Turns.of_below (S:=fun _=>False) hb) (fun _ _ e=>e)
theorem om.lay {v:Value}{last:Int}{l':List Sp.Up}{ao:ak}{cap n:Nat}(hg:w1.heap[g]? = some (.cells #[v,.int .i64 last] tO (0,0)))(hS:S g)(hU:qF w1 (fun k=>S k∧k≠g) tU tB ao cap l')(hn:n=l'.length):om (w1.setCell ⟨g,0,none⟩ (.slice ao n cap)) S tO tU tB g ⟨l',last⟩∧Turns (fun k=>k=g) w1 (w1.setCell ⟨g,0,none⟩ (.slice ao n cap)):=by
 subst hn;have hT:Turns (fun k=>k=g) w1 (w1.setCell ⟨g,0,none⟩ (.slice ao l'.length cap)):=Turns.setCell (fun k=>k=g) w1 _ _ rfl;exact⟨⟨ao,cap,fO w1 g 0 _ tO _ hg,hS,hU.turns hT (fun k e e2=>e.2 e2)⟩,hT⟩
theorem om.cells (h:om w S tO tU tB g s):∃ao cap,w.cell? ⟨g,0,none⟩=some (.slice ao s.l.length cap)∧w.cell? ⟨g,1,none⟩=some (.int .i64 s.last)∧w.frozen? ⟨g,0,none⟩=false∧w.frozen? ⟨g,1,none⟩=false∧w.heap[g]? = some (.cells #[.slice ao s.l.length cap,.int .i64 s.last] tO (0,0))∧S g∧qF w (fun k=>S k∧k≠g) tU tB ao cap s.l:=by
 obtain⟨ao,cap,h1,h2,h3⟩:=h;exact⟨ao,cap,fK w g 0 _ _ _ h1,fK w g 1 _ _ _ h1,fM w g 0 _ _ h1,fM w g 1 _ _ h1,h1,h2,h3⟩
end
theorem NY (x y:ay):∀u∈([.string x,.string y]:List Value),u.oneCell'=true:=fun u hu=>by simp at hu;rcases hu with rfl | rfl <;> rfl
theorem prNew (W:World)(x y:ay)(t:Nat){k:Nat}(hk:W.heap.size=k):∀j u,([.string x,.string y]:List Value)[j]? = some u->(W.alloc (.cells #[.string x,.string y] t)).cell? (Addr.add ⟨k,0,none⟩ j)=some u:=fun j u hu=>by
 rw[gI,bq,World.cell?_alloc_at _ _ _ _ hk.symm,dH];exact hu
theorem aec {wb w5:World}{x y:ay}{t:Nat}(h:Below (wb.alloc (.cells #[.string x,.string y] t)).drew.heap.size (wb.alloc (.cells #[.string x,.string y] t)).drew w5):∀j u,([.string x,.string y]:List Value)[j]? = some u->w5.cell? (Addr.add ⟨wb.heap.size,0,none⟩ j)=some u:=fun j u hu=>by
 have h1:=prNew wb x y t rfl j u hu;have h2:(wb.alloc (.cells #[.string x,.string y] t)).drew.cell? (Addr.add ⟨wb.heap.size,0,none⟩ j)=some u:=h1;exact(h.cell (gq _ _ h2)).trans h2
theorem Qy {wb W w6:World}{base t:Nat}{ao:ak}{cap n:Nat}{xs:List Value}{w5:World}(hB:aj wb W)(hO:gV w5 base t 2 ao cap n xs)(hG:W.grownBy w6 (Value.slice ao n cap).ownBlock)(hz:wb.heap.size<=base):aj wb w6 :=
 hB.grown hG hB.size (fun q e=>by
  rw[gP] at e;cases ao with
  | none=>cases e
  | some a=>injection e with e;subst e;have:=(hO.block a rfl).1;omega)
def QK:Sp.Up:=⟨0,0,⟨#[]⟩,[],0⟩
theorem Tj (n:Nat):(madeCells #[.int .i64 0,.int .i64 0,.string ⟨#[]⟩,.slice none 0 0,.int .i64 0] (n*5)).toList=tN (List.replicate n (QK,⟨none,0⟩)):=by
 refine List.ext_getElem? fun j=>?_;by_cases hj:j<n*5
 . have hm:j=(j / 5)*5+j % 5:=by omega
   have hd:j / 5<n:=by omega
   have hr:j % 5<5:=Nat.mod_lt _ (by decide);have h2:=uR (List.replicate n (QK,⟨none,0⟩)) (j / 5) (by simpa using hd) (j % 5) hr;rw[<-hm] at h2;rw[h2,Array.getElem?_toList];have e5:(#[Value.int .i64 0,.int .i64 0,.string ⟨#[]⟩,.slice none 0 0,.int .i64 0]:Array Value).size=5:=rfl;simp only[madeCells,Array.getElem?_map,List.getElem_replicate];rw[Array.getElem?_range,if_pos hj,e5,Option.map_some];clear h2 hm;generalize j % 5=r at hr ⊢;match r,hr with
   | 0,_=>rfl
   | 1,_=>rfl
   | 2,_=>rfl
   | 3,_=>rfl
   | 4,_=>rfl
 . rw[eU (by simp[madeCells];omega),eU (by rw[rT,List.length_replicate];omega)]
theorem Ma:∀(us:List (Sp.Up×yQ)) (i:Nat) (_:i<us.length) (x:Sp.Up×yQ),(((((tN us).set (i*5) (.int .i64 x.1.id)).set (i*5+1) (.int .i64 x.1.size)).set (i*5+2) (.string x.1.note)).set (i*5+3) (.slice x.2.bo x.1.bytes.length x.2.gK)).set (i*5+4) (.int .i64 x.1.sent)=tN (us.set i x)
 | p::t,0,_,x=>rfl
 | p :: t, i + 1, hi, x => by
   have ih:=Ma t i (by simpa using hi) x;have e:∀(a:List Value) (k:Nat) (v:Value),(vF p.1 p.2++a).set ((i+1)*5+k) v=vF p.1 p.2++a.set (i*5+k) v:=fun a k v=>by
    rw[bI _ _ (by rw[show(vF p.1 p.2).length=5 from rfl];omega),show(vF p.1 p.2).length=5 from rfl,show(i+1)*5+k-5=i*5+k by omega]
   have e0:∀(a:List Value) (v:Value),(vF p.1 p.2++a).set ((i+1)*5) v=vF p.1 p.2++a.set (i*5) v:=fun a v=>e a 0 v;show(((((vF p.1 p.2++tN t).set ((i+1)*5) _).set _ _).set _ _).set _ _).set _ _=vF p.1 p.2++tN (t.set i x);rw[e0,e,e,e,e,ih]
section
variable {w w':World} {S N:Nat->Prop} {tU tB g cap n:Nat} {l:List Sp.Up}
theorem qF.zeros (h:gV w 0 tU 5 (some ⟨g,0,none⟩) cap n (tN (List.replicate n (QK,⟨none,0⟩))))(hS:S g):qF w S tU tB (some ⟨g,0,none⟩) cap (List.replicate n QK):=by
 refine⟨List.replicate n (QK,⟨none,0⟩),by simp,by rw[List.length_replicate];exact h,fun a e=>by injection e with e;subst e;exact hS,fun x hx=>?_,fun i j x y hx hy _ k kx=>?_⟩
 . rw[List.eq_of_mem_replicate hx];exact gZ.nil _ _ _
 . rw[List.eq_of_mem_replicate (dL hx)] at kx;simp[yw,jN,QK] at kx
theorem qF.ah3 {i:Nat}{u:Sp.Up}{bo:ak}{gK bn:Nat}(h:qF w S tU tB (some ⟨g,0,none⟩) cap l)(hi:i<l.length)(hB:gZ w N tB bo gK u.bytes)(hN:∀k,N k->¬S k)(hbn:bn=u.bytes.length):
 qF (((((w.setCell ⟨g,i*5,none⟩ (.int .i64 u.id)).setCell ⟨g,i*5+1,none⟩ (.int .i64 u.size)).setCell ⟨g,i*5+2,none⟩ (.string u.note)).setCell ⟨g,i*5+3,none⟩ (.slice bo bn gK)).setCell ⟨g,i*5+4,none⟩ (.int .i64 u.sent)) (fun k=>S k∨N k) tU tB (some ⟨g,0,none⟩) cap (l.set i u) ∧
 Turns (fun k=>k=g) w (((((w.setCell ⟨g,i*5,none⟩ (.int .i64 u.id)).setCell ⟨g,i*5+1,none⟩ (.int .i64 u.size)).setCell ⟨g,i*5+2,none⟩ (.string u.note)).setCell ⟨g,i*5+3,none⟩ (.slice bo bn gK)).setCell ⟨g,i*5+4,none⟩ (.int .i64 u.sent)):=by
 subst hbn;obtain⟨us,rfl,h2,h3,h4,h5⟩:=h;have hi':i<us.length:=by simpa using hi
 have hT:=mM g [.int .i64 u.id,.int .i64 u.size,.string u.note,.slice bo u.bytes.length gK,.int .i64 u.sent] (i*5) w;have hO:=(fV (fV (fV (fV (fV h2 (i*5) (.int .i64 u.id)).1 (i*5+1) (.int .i64 u.size)).1 (i*5+2) (.string u.note)).1 (i*5+3) (.slice bo u.bytes.length gK)).1 (i*5+4) (.int .i64 u.sent)).1;have hp:=Ma us i hi' (u,⟨bo,gK⟩);simp only at hp;rw[hp] at hO;refine⟨⟨us.set i (u,⟨bo,gK⟩),by rw[List.map_set],by rw[aP];exact hO,fun a e=>Or.inl (h3 a e),fun x hx=>?_,h5.set i fun j y hy _ k ky kx=>?_⟩,hT⟩
 . have hSg:=h3 _ rfl;rcases List.mem_or_eq_of_mem_set hx with hx | hx
   . exact(h4 x hx).over hT (fun k e _ _=>⟨fun e2=>e.2 (by subst e2;rfl),Or.inl e.1,e.2⟩)
   . subst hx;exact hB.over hT (fun k e _ _=>⟨fun e2=>hN k e (by subst e2;exact hSg),Or.inr e,fun e2=>hN k e (by injection e2 with e2;subst e2;exact hSg)⟩)
 . exact hN k (hB.blk kx).1 ((h4 y (dL hy)).blk ky).1.1
end
theorem Tk (l:List Sp.Up)(k:Nat)(hk:k<l.length):(l.take k++List.replicate (l.length-k) QK).set k l[k]=l.take (k+1)++List.replicate (l.length-(k+1)) QK:=by
 have e:l.length-k=(l.length-(k+1))+1:=by omega
 have hlen:(l.take k).length=k:=by rw[bY];omega
 rw[e,List.replicate_succ,bI _ _ (by omega),hlen,Nat.sub_self,eu,bO hk,dU];rfl
end Go.Proofs.YtjmndjmhjleabaaGreatDoor