/- Small texts, one behind the other: FmC, SkN. -/
import Derived.Test.YthhklgjjnaeaoaaGreatDoorPk32
import Derived.Test.YthhklgjjnaeaoaaGreatDoorPk25
open Go.Value renaming int->I,slice->Z,pointer->Q
open Go.IntKind renaming i64->J
open Go.Obj renaming cells->K
open Option renaming none->U,some->M
open Go renaming World->X
set_option maxHeartbeats 2000000
open Go.Proofs.Tryz
namespace Go.Proofs.YthhklgjjnaeaoaaGreatDoor
open Go.RowKit
inductive yt (w:X)(S So:Nat->Prop)(g gt:Nat)(m:av)(s:Fm.St)(t:Fm.Td)(w':X):Prop
 | mk (S' So':Nat->Prop) (hF:jR w' S' g m s) (hO:mK w' So' gt t) (hd:∀k,S' k->¬So' k) (hS:∀k,S' k->S k∨w.heap.size<=k) (hSo:∀k,So' k->So k∨w.heap.size<=k) (hT:Turns (fun k=>S k∨So k) w w')
inductive OD (w:X)(S So:Nat->Prop)(g gt:Nat)(t:Fm.Td)(w':X):Prop
 | mk (So':Nat->Prop) (sk ln:Value) (ah pl pt cd:Int) (fo:ak) (nf fZ:Nat) (hR:jg w' g sk ah ln fo nf fZ pl pt cd) (hO:mK w' So' gt t) (hd:¬So' g) (hSo:∀k,So' k->So k∨w.heap.size<=k) (hT:Turns (fun k=>S k∨So k) w w')
inductive Zy (w:X)(S So:Nat->Prop)(g gt:Nat)(m:av)(s:Fm.St)(c:UInt8)(t:Fm.Td)(e:Ending)(w':X):Prop
 | ok (he:e=.returned (I J 0)) (h:yt w S So g gt m (Fm.next m s c).1 (Fm.tells t (Fm.next m s c).2) w')
 | fail (k:Nat) (hk:k≠0) (hN:Fm.next m s c=Fm.fails k) (he:e=.returned (I J (k:Int))) (h:OD w S So g gt t w')
section
variable {w w1 w':X} {S:Nat->Prop} {g gs gl:Nat} {m:av} {s:Fm.St}
theorem jR.move (h:jR w S g m s)(b:Fm.live s)(p:Nat)(c:p≠6):jR (w.setCell ⟨g,4,U⟩ (I J (p:Int))) S g m { s with place:=p }∧Turns S w (w.setCell ⟨g,4,U⟩ (I J (p:Int))):=by
 cases h with
 | dead h a row=>exact absurd b h
 | live h a gs gl q d f D row inn =>
   exact⟨.live ⟨h.1,c⟩ a gs gl q d f D (row.s4 p) ((inn.turns (jg.set w g 4 _) (fun k e=>e.2)).as rfl rfl rfl),(jg.set w g 4 _).mono (fun k e=>by subst e;exact a)⟩
theorem jR.sought {p:Ox}{fo:ak}{fZ:Nat}{D:Nat->Prop}(l:Fm.live s)(i:S g)(row:jg w g (Q (M ⟨gs,0,U⟩)) (s.ahead:Int) (Q (M ⟨gl,0,U⟩)) fo s.fields.length fZ (s.place:Int) (s.parts:Int) (s.code:Int))(inn:rY w (fun k=>S k∧k≠g) m s gs gl p fo fZ D)
 {c a2:Nat} (n:mq w1 gs m c p) (o:w.grownBy w1 (M gs)):jR (w1.setCell ⟨g,1,U⟩ (I J (a2:Int))) S g m { s with held:=c,ahead:=a2 }∧Turns S w (w1.setCell ⟨g,1,U⟩ (I J (a2:Int))):=by
 have b:Turns (fun k=>k=gs) w w1:=Turns.iL o (fun k e=>by injection e with e;exact e.symm);have j:Turns (fun k=>k=g) w1 (w1.setCell ⟨g,1,U⟩ (I J (a2:Int))):=jg.set w1 g 1 _;have d:gs≠g:=inn.zH.1.2;have q:=(row.turns b (fun e=>d e.symm)).s1 (a2:Int);have f:∀k,(((S k∧k≠g)∧D k)->¬k=gs):=fun k e r=>inn.OA.1 (r▸e.2);have t:rY w1 (fun k=>S k∧k≠g) m { s with held:=c,ahead:=a2 } gs gl p fo fZ D:=⟨n,inn.zH,inn.OA,inn.ln.turns b f,inn.own.turns b (fun a e=>(inn.fs a e).1),inn.fC⟩;refine⟨.live l i gs gl p fo fZ D q (t.turns j (fun k e=>e.2)),(b.mono (fun k e=>by subst e;exact inn.zH.1.1)).trans (j.mono (S':=S) (fun k e=>by subst e;exact i)) (fun _ e _=>e)⟩
end
structure Pair (w0:X)(S So:Nat->Prop)(g gt:Nat)(m:av)(s:Fm.St)(t:Fm.Td)(w:X):Prop where
 fm:jR w (fun k=>S k∧k<w0.heap.size) g m s
 td:mK w (fun k=>So k∧k<w0.heap.size) gt t
 apart:∀k,S k->¬So k
 turns:Turns (fun k=>S k∨So k) w0 w
section
variable {w0 w w':X} {S So:Nat->Prop} {g gt:Nat} {m:av} {s s':Fm.St} {t t':Fm.Td}
theorem Pair.start (b:jR w S g m s)(c:mK w So gt t)(hd:∀k,S k->¬So k):Pair w S So g gt m s t w:=⟨b.mono (fun _ a e=>⟨e,a⟩),c.mono (fun _ a e=>⟨e,a⟩),hd,Turns.refl _ _⟩
theorem Pair.form (h:Pair w0 S So g gt m s t w)(b:jR w' (fun k=>S k∧k<w0.heap.size) g m s')(a:Turns (fun k=>S k∧k<w0.heap.size) w w'):Pair w0 S So g gt m s' t w' :=
 ⟨b,h.td.turns a (fun k e c=>h.apart k c.1 e.1),h.apart,h.turns.trans a (fun _ e _=>Or.inl e.1)⟩
theorem Pair.went (h:Pair w0 S So g gt m s t w):yt w0 S So g gt m s t w :=
 .mk _ _ h.fm h.td (fun k e a=>h.apart k e.1 a.1) (fun _ e=>Or.inl e.1) (fun _ e=>Or.inl e.1) h.turns
theorem Pair.told (h:Pair w0 S So g gt m s t w)(d:mK w' (gB (fun k=>So k∧k<w0.heap.size) w) gt t')(b:Turns (fun k=>So k∧k<w0.heap.size) w w'):yt w0 S So g gt m s t' w'∧jR w' (fun k=>S k∧k<w0.heap.size) g m s:=by
 have f:=h.turns.size;have c:=h.fm.turns b (fun k e a=>h.apart k e.1 a.1);refine⟨.mk _ _ c d (fun k e a=>?_) (fun k e=>Or.inl e.1) (fun k e=>?_) (h.turns.trans b (fun i e _=>Or.inr e.1)),c⟩
 . rcases a with a | a
   . exact h.apart k e.1 a.1
   . have:=e.2;omega
 . rcases e with e | e
   . exact Or.inl e.1
   . exact Or.inr (by omega)
end
theorem yt.then_ {w0 w w':X}{S So l n:Nat->Prop}{g gt:Nat}{m:av}{o:Fm.St}{p:Fm.Td}(a:∀k,l k->S k∨w0.heap.size<=k)(q:∀k,n k->So k∨w0.heap.size<=k)(r:Turns (fun k=>S k∨So k) w0 w)(s:yt w l n g gt m o p w'):yt w0 S So g gt m o p w':=by
 obtain⟨t,b,c,d,f,j,u,v⟩:=s;have x:=r.size;refine .mk t b c d f (fun k e=>?_) (fun k e=>?_) (r.trans v (fun i e y=>?_))
 . rcases j k e with e | e
   . exact a k e
   . exact Or.inr (by omega)
 . rcases u k e with e | e
   . exact q k e
   . exact Or.inr (by omega)
 . rcases e with e | e
   . rcases a i e with e | e
     . exact Or.inl e
     . omega
   . rcases q i e with e | e
     . exact Or.inr e
     . omega
theorem Jb (w:World)(S So:Nat->Prop)(g gt:Nat)(m:av)(s:Fm.St)(c:UInt8)(t:Fm.Td)(h:jR w S g m s)(hl:Fm.live s)(hp:s.place=0)(hG:Fm.Good m s)(hO:mK w So gt t)(hd:∀k,S k->¬So k)(hm:m.length<=1000)(ha:s.ahead<=2)(hes:t.es.length<=80000)(hbs:t.bs.length<=80000):
 Calls prog 314 #[.pointer (some ⟨g,0,none⟩),.pointer (some ⟨gt,0,none⟩),.int .u8 c.toNat] w fun e w'=>e=.returned (.tuple #[])∧yt w S So g gt m (Fm.next m s c).1 (Fm.tells t (Fm.next m s c).2) w':=by
 have hP:=Pair.start h hO hd;have hN:Fm.next m s c=({ s with held:=Sk.after m s.held c,ahead:=s.ahead-(Sk.out m s.held c).length,place:=if Sk.found m s.held c then 1 else 0 },if 0<s.parts then Fm.nG ((Sk.out m s.held c).drop s.ahead)++(if Sk.found m s.held c then [Fm.J2] else []) else []):=by
  unfold Fm.next;rw[if_neg (fun k=>k hl),if_pos hp]
 have hol:=Fm.xR m s.held c hG.held;have hhl:=hG.held;cases hP.fm with
 | dead h2 me row=>exact absurd hl h2
 | live h2 me gs gl p fo fZ D row inn =>
   have c0:=row.c0;have hne:g≠gs:=fun e=>inn.zH.1.2 e.symm;have hSo:∀w1 a2,mq w1 gs m (Sk.after m s.held c) p->w.grownBy w1 (some gs)->Pair w S So g gt m { s with held:=Sk.after m s.held c,ahead:=a2 } t (w1.setCell ⟨g,1,none⟩ (.int .i64 ((a2:Nat):Int))):=fun w1 a2 hS hG=>by
    obtain⟨r1,r2⟩:=jR.sought (a2:=a2) hl me row inn hS hG;exact hP.form r1 r2
   have HG:=And.intro hl hp;have hlt:=row.lt;generalize hout:Sk.out m s.held c=out at *;generalize Zw:Sk.found m s.held c=fd at *;generalize haf:Sk.after m s.held c=af at *;go_enter func314,ntmps314;go_wp2_with fail
   refine(Eo w g gs s.ahead m s.held c p row.c0 row.c1 (row.fz 1) hne inn.sk hG.held hm (by omega)).mono ?_;rintro e w2 ⟨w1,ao,cap,n,he,hn,hw,hB,hlo,hS,hGr⟩;rw[hout] at hn hw hB;rw[Zw] at he;rw[haf] at hS;subst he;have hP2:=hSo w1 (s.ahead-out.length) hS hGr;have hB2:gN w2 ao cap (out.drop s.ahead):=by
    rw[hw];exact hB.turns (jg.set w1 g 1 _) (fun a e e2=>by have:=hlo a e;omega)
   rw[<-hw] at hP2;have tC:=hP2;have HB2:=H9 hB2;have WG:=H9 hn
   obtain⟨c4,c5,_,fz⟩:=hP2.fm.cells;have f4:=fz 4;have hnl:n<=1001:=by rw[hn,bT];omega
   have HMv:=fun(W:World) (hW:jR W (fun k=>S k∧k<w.heap.size) g m { s with held:=af,ahead:=s.ahead-out.length })=>hW.move HG.1 1 (by decide);clear hP2 hB2 hn hB hS hGr hw hlo fz  hout Zw haf;have c5:=c5;by_cases hpt:0<s.parts
   . have tp:decide ((s.parts:Int) > 0)=true:=aI (by omega);go_wp2_with fail
     refine(I9 w2 _ gt t ao cap n (out.drop s.ahead) tC.td HB2.o WG.o.symm (by omega)).mono ?_;rintro e w3 ⟨rfl,hO3,nL⟩;obtain⟨hW3,hF3⟩:=tC.told hO3 nL;obtain⟨c4',c5',_,fz⟩:=hF3.cells;have f4':=fz 4;have rZ:=hO3;have HW3:=H9 hW3;have HF3:=H9 hF3;have HT3:=H9 nL
     have c5':=c5';cases fd with
     | false =>
       go_wp2;refine fI (results_none rfl _ _ _) rfl ?_;refine⟨rfl,?_⟩;rw[hN,if_pos hpt];show yt w S So g gt m { s with held:=af,ahead:=s.ahead-out.length,place:=0 } (Fm.tells t (Fm.nG (out.drop s.ahead)++[])) w3;rw[bU,Fm.AY];have:({ s with held:=af,ahead:=s.ahead-out.length,place:=0 }:Fm.St)={ s with held:=af,ahead:=s.ahead-out.length }:=by have:=HG.2;cases s;simp only at this;subst this;rfl
       rw[this];exact HW3.o
     | true =>
       obtain⟨hm1,hm2⟩:=HMv w3 HF3.o;have hTo:=rZ.turns hm2 (fun k e e2=>by
        rcases e with e | e
        . exact tC.apart k e2.1 e.1
        . have:=e2.2;have:=tC.turns.size;omega)
       have Xk:=hm1;have HM2:=H9 hm2
       have Xl:=hm1.cells.2.1;have Xl:=Xl;go_wp2_with fail
       refine(wZ _ _ gt _ 6 ⟨#[]⟩ ⟨#[]⟩ ⟨#[]⟩ 0 hTo (by decide) (by show t.es.length<=90000;omega)).mono ?_;rintro e w5 ⟨rfl,vX,wm⟩;have zk:=vX;have Tt:=H9 wm
       go_wp2;go_end0
       refine⟨rfl,?_⟩;rw[hN,if_pos hpt];show yt w S So g gt m { s with held:=af,ahead:=s.ahead-out.length,place:=1 } (Fm.tells t (Fm.nG (out.drop s.ahead)++[Fm.J2])) w5;rw[Fm.yN,Fm.AY];have hz:=HT3.o.size;have hz0:=tC.turns.size;have hF5:=Xk.turns Tt.o (fun k e e2=>by
        rcases e2 with e2 | e2
        . exact tC.apart k e.1 e2.1
        . have:=e.2;omega)
       refine .mk _ _ hF5 zk (fun k e e2=>?_) (fun _ e=>Or.inl e.1) (fun k e=>?_) (((tC.turns.trans HT3.o (fun _ e _=>Or.inr e.1)).trans HM2.o (fun _ e _=>Or.inl e.1)).trans Tt.o (fun i e hi=>?_))
       . rcases e2 with e2 | e2
         . rcases e2 with e2 | e2
           . exact tC.apart k e.1 e2.1
           . have:=e.2;omega
         . have:=e.2;simp at e2;omega
       . rcases e with e | e
         . rcases e with e | e
           . exact Or.inl e.1
           . exact Or.inr (by omega)
         . exact Or.inr (by simp at e;omega)
       . rcases e with e | e
         . exact Or.inr e.1
         . omega
   . have tp:decide ((s.parts:Int) > 0)=false:=aJ (by omega);cases fd with
     | false =>
       go_wp2;refine fI (results_none rfl _ _ _) rfl ?_;refine⟨rfl,?_⟩;rw[hN,if_neg hpt];show yt w S So g gt m { s with held:=af,ahead:=s.ahead-out.length,place:=0 } t w2;have:({ s with held:=af,ahead:=s.ahead-out.length,place:=0 }:Fm.St)={ s with held:=af,ahead:=s.ahead-out.length }:=by have:=HG.2;cases s;simp only at this;subst this;rfl
       rw[this];exact tC.went
     | true =>
       obtain⟨hm1,hm2⟩:=HMv w2 tC.fm;have Xk:=hm1;have HM2:=H9 hm2
       have Xl:=hm1.cells.2.1;have Xl:=Xl;go_wp2;go_end0
       refine⟨rfl,?_⟩;rw[hN,if_neg hpt];exact(tC.form Xk HM2.o).went
def bkK (m:av)(k j:Nat):Value:=if j<=k then bkR m j else I J 0
def wE (w:X)(lo g gb:Nat)(m:av)(mo:ak)(cap k:Nat):Prop :=
 w.heap[g]? = M (K #[Z mo m.length cap,Z (M ⟨gb,0,U⟩) m.length m.length,I J 0] 341 (0,0)) ∧
  iA w lo 5 mo cap m∧w.rowIs gb 3 m.length (bkK m k)∧lo<=g∧lo<=gb
theorem zeros (m:av)(j:Nat):Value.int J 0=bkK m 1 j:=by
 unfold bkK;split
 . have e:j=0∨j=1:=by omega
   rcases e with rfl | rfl <;> rfl
 . rfl
theorem abZ {w a:X}{m:av}{ao:ak}{cap:Nat}(d:iA a w.heap.size 5 ao cap m)(b:Below w.heap.size w a):
 wE ((a.alloc (K (madeCells #[I J 0] m.length) 3)).alloc (K #[Z ao m.length cap,Z (M ⟨a.heap.size,0,U⟩) m.length m.length,I J 0] 341)) w.heap.size (a.heap.size+1) a.heap.size m ao cap 1 ∧
 Below w.heap.size w ((a.alloc (K (madeCells #[I J 0] m.length) 3)).alloc (K #[Z ao m.length cap,Z (M ⟨a.heap.size,0,U⟩) m.length m.length,I J 0] 341)):=by
 have c:=b.size;refine⟨⟨?_,(d.alloc _).alloc _,((World.rowIs_made a _ _ _).alloc _).congr (fun j _=>zeros m j),by omega,c⟩,(b.alloc c _).alloc (by simp;omega) _⟩;have:=eX (a.alloc (K (madeCells #[I J 0] m.length) 3)) (K #[Z ao m.length cap,Z (M ⟨a.heap.size,0,U⟩) m.length m.length,I J 0] 341);simpa using this
theorem ab0 {w a:X}{m:av}{ao:ak}{cap:Nat}(c:iA a (w.alloc (K (madeCells #[I J 0] m.length) 3)).drew.heap.size 5 ao cap m)(b:Below (w.alloc (K (madeCells #[I J 0] m.length) 3)).drew.heap.size (w.alloc (K (madeCells #[I J 0] m.length) 3)).drew a):
 wE (a.alloc (K #[Z ao m.length cap,Z (M ⟨w.heap.size,0,U⟩) m.length m.length,I J 0] 341)) w.heap.size a.heap.size w.heap.size m ao cap 1 ∧
 Below w.heap.size w (a.alloc (K #[Z ao m.length cap,Z (M ⟨w.heap.size,0,U⟩) m.length m.length,I J 0] 341)):=by
 have d:=b.size;have e:(w.alloc (K (madeCells #[I J 0] m.length) 3)).drew.heap.size=w.heap.size+1:=by simp
 rw[e] at c b d;replace b:=(gy _ (w.alloc (K (madeCells #[I J 0] m.length) 3))).trans b;refine⟨⟨eX a _,(c.mono (by omega)).alloc _,(((World.rowIs_made w _ _ _).of_block (b.block _ (by omega))).alloc _).congr (fun j _=>zeros m j),by omega,aM _⟩,(((eY _ _).alloc (aM _) _).trans (b.mono (by omega))).alloc (by omega) _⟩
theorem Xo (m:av)(ao:ak)(cap:Nat)(w:X)(h:gN w ao cap m)(hL:m.length<=1000000):
 Calls prog 276 #[Z ao m.length cap] w fun e w'=>∃g p,e=.returned (Q (M ⟨g,0,U⟩))∧mq w' g m 0 p∧w.heap.size<=g∧w.heap.size<=p.gb∧(∀a,p.mo=M a->w.heap.size<=a.block)∧Below w.heap.size w w':=by
 have hmk:=run_make_row' (P:=prog) 55 3 (I J 0) 8 underlying55 yV rfl J J m.length (by omega) (by omega);go_enter func276,ntmps276;go_upto_region 1 with fail
 go_cut [3] (fun p wc=>∃g c s b,p=Q (M ⟨g,0,U⟩)∧wE wc w.heap.size g c m s b 1∧Below w.heap.size w wc)
 case first =>
  go_region_with (go_at_call 311;refine((fun(W:X) (hW:gN W ao cap m)=>GQ m ao cap W hW (by omega)) _ (by first | exact h | exact h.alloc _)).mono ?_;rintro e w1 ⟨gJ,b,rfl,hO,D⟩;have HO:=H9 hO;have HB:=H9 D;clear hO D)
  all_goals (go_wp2_with fail;go_meet;first | exact⟨_,_,_,_,rfl,abZ HO.o ((gy _ w).trans HB.o)⟩ | exact⟨_,_,_,_,rfl,ab0 HO.o HB.o⟩)
 case rest =>
  obtain⟨g,c,s,b,rfl,G,D⟩:=hcut;have HP:=H9 G;go_wp2;go_loopw [4] (fun t wr=>∃n:Nat,0<n∧n<=m.length+1∧t=I J n∧wE wr w.heap.size g c m s b n∧Below w.heap.size w wr) (fun t _=>m.length+1-(intOf t).toNat)
  case atStart=>exact⟨1,by omega,by omega,rfl,HP.o,D⟩
  case round =>
   obtain⟨n,u,hnl,rfl,G,hb⟩:=hrel;have HP:=H9 G;obtain⟨v,y,d,z,f⟩:=G;have c0:=eZ wr g 0 _ _ _ v;have c1:=eZ wr g 1 _ _ _ v;by_cases H:n+1<m.length
   . obtain⟨i,rfl,_,B⟩:=y.head (by omega);have cm:=B n (by omega);have cb:wr.cell? ⟨c,n,U⟩=M (I J (Sk.bk m n)):=by
      rw[d.cell (by omega)];unfold bkK;rw[if_pos (aM _)];rfl
     have cb1:wr.cell? ⟨c,n+1,U⟩=M (I J 0):=by
      rw[d.cell H];unfold bkK;rw[if_neg (by omega)]
     have fb1:wr.frozen? ⟨c,n+1,U⟩=false:=d.frozen _;have L:c≠g:=Gi v d (by decide);have C:i≠c:=by
      intro e;subst e;obtain⟨cc,N,_⟩:=d;have:=kP N y (by decide);simp[Value.ownBlock] at this
     have S:=Sk.Vn m n u;have l:=H9 (QD m (Sk.bk m n) m[n] g i c b wr.drew (by omega) (by omega) c0 c1 B (fun j hj0 hjn=>by
      refine(d.cell (show j<m.length by omega)).trans ?_;unfold bkK;rw[if_pos (by omega)];rfl))
     rw[<-Sk.YQ m n u (by omega)] at l;have T:wE (wr.drew.setCell ⟨c,n+1,U⟩ (I J (Sk.bk m (n+1)))) w.heap.size g c m (M ⟨i,0,U⟩) b (n+1)∧Below w.heap.size w (wr.drew.setCell ⟨c,n+1,U⟩ (I J (Sk.bk m (n+1)))):=by
      refine⟨⟨?_,?_,(d.set (n+1) (I J (Sk.bk m (n+1)))).congr (fun j _=>?_),z,f⟩,(hb.trans (gy _ _)).setCell f _⟩
      . rw[fK _ _ _ _ (fun e=>L e.symm)];exact v
      . exact iA.kept (w:=wr.drew) y ⟨rfl,rfl,rfl,by simp[World.setCell],fun k _ hne=>fK _ _ k _ (fun e=>hne (by rw[e]))⟩ (row:=M c) (fun a e=>by cases e;intro e;injection e with e;exact C e)
      . unfold bkK;by_cases e:j=n+1
        . subst e;rw[if_pos rfl,if_pos (aM _)];rfl
        . rw[if_neg e];by_cases e2:j<=n
          . rw[if_pos e2,if_pos (by omega)]
          . rw[if_neg e2,if_neg (by omega)]
     generalize Sk.bk m (n+1)=r at l T;generalize Sk.bk m n=q at l cb S;generalize m[n]=x at l cm;have ht:decide ((n:Int)+1<m.length)=true:=by rw[bP];omega
     have b1:(n:Int)<m.length:=by omega
     have b2:(n:Int)+1<m.length:=by omega
     have b3:IntKind.i64.wrap ((n:Int)+1)=(n:Int)+1:=ko (by omega) (by omega);have b4:(0:Int)<=(n:Int)+1:=by omega
     have b5:((n:Int)+1).toNat=n+1:=by omega
     have k1:(wr.setCell ⟨c,n+1,U⟩ (I J (r:Int))).cell? ⟨i,n,U⟩=M (I .u8 (x.toNat:Int)):=(fB wr ⟨c,n+1,U⟩ ⟨i,n,U⟩ _ (fun e=>by injection e with e _ _;exact C e.symm)).trans cm;have k2:(wr.setCell ⟨c,n+1,U⟩ (I J (r:Int))).cell? ⟨c,n,U⟩=M (I J (q:Int)):=(fB wr ⟨c,n+1,U⟩ ⟨c,n,U⟩ _ (fun e=>by injection e with _ e _;omega)).trans cb;go_wp2;go_region_held3 (fun w'=>w'.cell? ⟨g,0,U⟩=M (Z (M ⟨i,0,U⟩) m.length b)∧w'.cell? ⟨g,1,U⟩=M (Z (M ⟨c,0,U⟩) m.length m.length)∧w'.cell? ⟨i,n,U⟩=M (I .u8 (x.toNat:Int))∧w'.cell? ⟨c,n,U⟩=M (I J (q:Int))) (go_keep) (first | (go_at_call 312;refine l.o.mono ?_;rintro e w' ⟨rfl,rfl⟩))
     all_goals
      go_wp2;go_roundw
      case rel=>exact⟨n+1,by omega,by omega,by go_num,T.1,T.2⟩
      case measure=>simp[intOf];omega
   . have ht:decide ((n:Int)+1<m.length)=false:=by rw[bO];omega
     have l:mq wr g m 0 ⟨s,b,c⟩:=⟨v,y.mono (aA _),d.congr (fun j hj=>by unfold bkK;rw[if_pos (by omega)])⟩;have HMo:∀a,s=M a->w.heap.size<=a.block:=fun a e=>(y.block a e).1;go_wp2;go_ret;exact⟨g,⟨s,b,c⟩,rfl,l,z,f,HMo,hb⟩
end Go.Proofs.YthhklgjjnaeaoaaGreatDoor