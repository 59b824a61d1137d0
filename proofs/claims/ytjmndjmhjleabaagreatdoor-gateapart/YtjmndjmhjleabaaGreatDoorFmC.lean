/- Package forms, walked: a byte of a part. -/
import Derived.Test.YtjmndjmhjleabaaGreatDoorPk26
import Derived.Test.YtjmndjmhjleabaaGreatDoorPk28
open Go.Value renaming int->I
open Go.IntKind renaming i64->J
open Option renaming none->U
open Go renaming World->X
set_option maxHeartbeats 2000000
open Go.Proofs.Tryz
namespace Go.Proofs.YtjmndjmhjleabaaGreatDoor
open Go.RowKit
inductive yZ (w:X)(S So:Nat->Prop)(g gt:Nat)(m:au)(s:Fm.St)(t:Fm.Td)(w':X):Prop
 | mk (S' So':Nat->Prop) (hF:ko w' S' g m s) (hO:nk w' So' gt t) (hd:∀k,S' k->¬So' k) (hS:∀k,S' k->S k∨w.heap.size<=k) (hSo:∀k,So' k->So k∨w.heap.size<=k) (hT:Turns (fun k=>S k∨So k) w w')
inductive OW (w:X)(S So:Nat->Prop)(g gt:Nat)(t:Fm.Td)(w':X):Prop
 | mk (So':Nat->Prop) (sk ln:Value) (ah pl pt cd:Int) (fo:aj) (nf gL:Nat) (hR:jv w' g sk ah ln fo nf gL pl pt cd) (hO:nk w' So' gt t) (hd:¬So' g) (hSo:∀k,So' k->So k∨w.heap.size<=k) (hT:Turns (fun k=>S k∨So k) w w')
inductive ZL (w:X)(S So:Nat->Prop)(g gt:Nat)(m:au)(s:Fm.St)(c:UInt8)(t:Fm.Td)(e:Ending)(w':X):Prop
 | ok (he:e=.returned (I J 0)) (h:yZ w S So g gt m (Fm.next m s c).1 (Fm.tells t (Fm.next m s c).2) w')
 | fail (k:Nat) (hk:k≠0) (hN:Fm.next m s c=Fm.fails k) (he:e=.returned (I J (k:Int))) (h:OW w S So g gt t w')
section
variable {w w1 w':X} {S:Nat->Prop} {g gs gl:Nat} {m:au} {s:Fm.St}
theorem ko.move (h:ko w S g m s)(b:Fm.live s)(p:Nat)(c:p≠6):ko (w.setCell ⟨g,4,U⟩ (I J (p:Int))) S g m { s with place:=p }∧Turns S w (w.setCell ⟨g,4,U⟩ (I J (p:Int))):=by
 cases h with
 | dead h a row=>exact absurd b h
 | live h a gs gl q d f D row inn =>
   exact⟨.live ⟨h.1,c⟩ a gs gl q d f D (row.s4 p) ((inn.turns (jv.set w g 4 _) (fun k e=>e.2)).as rfl rfl rfl),(jv.set w g 4 _).mono (fun k e=>by subst e;exact a)⟩
theorem ko.sought {p:OO}{fo:aj}{gL:Nat}{D:Nat->Prop}(l:Fm.live s)(i:S g)(row:jv w g (.pointer (some ⟨gs,0,U⟩)) (s.ahead:Int) (.pointer (some ⟨gl,0,U⟩)) fo s.fields.length gL (s.place:Int) (s.parts:Int) (s.code:Int))(inn:tJ w (fun k=>S k∧k≠g) m s gs gl p fo gL D)
 {c a2:Nat} (n:mQ w1 gs m c p) (o:w.grownBy w1 (some gs)):ko (w1.setCell ⟨g,1,U⟩ (I J (a2:Int))) S g m { s with held:=c,ahead:=a2 }∧Turns S w (w1.setCell ⟨g,1,U⟩ (I J (a2:Int))):=by
 have b:Turns (fun k=>k=gs) w w1:=Turns.iY o (fun k e=>by injection e with e;exact e.symm);have j:Turns (fun k=>k=g) w1 (w1.setCell ⟨g,1,U⟩ (I J (a2:Int))):=jv.set w1 g 1 _;have d:gs≠g:=inn.Ad.1.2;have q:=(row.turns b (fun e=>d e.symm)).s1 (a2:Int);have f:∀k,(((S k∧k≠g)∧D k)->¬k=gs):=fun k e r=>inn.OT.1 (r▸e.2);have t:tJ w1 (fun k=>S k∧k≠g) m { s with held:=c,ahead:=a2 } gs gl p fo gL D:=⟨n,inn.Ad,inn.OT,inn.ln.turns b f,inn.own.turns b (fun a e=>(inn.fs a e).1),inn.fC⟩;refine⟨.live l i gs gl p fo gL D q (t.turns j (fun k e=>e.2)),(b.mono (fun k e=>by subst e;exact inn.Ad.1.1)).trans (j.mono (S':=S) (fun k e=>by subst e;exact i)) (fun _ e _=>e)⟩
end
structure Pair (w0:X)(S So:Nat->Prop)(g gt:Nat)(m:au)(s:Fm.St)(t:Fm.Td)(w:X):Prop where
 fm:ko w (fun k=>S k∧k<w0.heap.size) g m s
 td:nk w (fun k=>So k∧k<w0.heap.size) gt t
 apart:∀k,S k->¬So k
 turns:Turns (fun k=>S k∨So k) w0 w
section
variable {w0 w w':X} {S So:Nat->Prop} {g gt:Nat} {m:au} {s s':Fm.St} {t t':Fm.Td}
theorem Pair.start (b:ko w S g m s)(c:nk w So gt t)(hd:∀k,S k->¬So k):Pair w S So g gt m s t w:=⟨b.mono (fun _ a e=>⟨e,a⟩),c.mono (fun _ a e=>⟨e,a⟩),hd,Turns.refl _ _⟩
theorem Pair.form (h:Pair w0 S So g gt m s t w)(b:ko w' (fun k=>S k∧k<w0.heap.size) g m s')(a:Turns (fun k=>S k∧k<w0.heap.size) w w'):Pair w0 S So g gt m s' t w' :=
 ⟨b,h.td.turns a (fun k e c=>h.apart k c.1 e.1),h.apart,h.turns.trans a (fun _ e _=>Or.inl e.1)⟩
theorem Pair.went (h:Pair w0 S So g gt m s t w):yZ w0 S So g gt m s t w :=
 .mk _ _ h.fm h.td (fun k e a=>h.apart k e.1 a.1) (fun _ e=>Or.inl e.1) (fun _ e=>Or.inl e.1) h.turns
theorem Pair.told (h:Pair w0 S So g gt m s t w)(d:nk w' (gM (fun k=>So k∧k<w0.heap.size) w) gt t')(b:Turns (fun k=>So k∧k<w0.heap.size) w w'):yZ w0 S So g gt m s t' w'∧ko w' (fun k=>S k∧k<w0.heap.size) g m s:=by
 have f:=h.turns.size;have c:=h.fm.turns b (fun k e a=>h.apart k e.1 a.1);refine⟨.mk _ _ c d (fun k e a=>?_) (fun k e=>Or.inl e.1) (fun k e=>?_) (h.turns.trans b (fun i e _=>Or.inr e.1)),c⟩
 . rcases a with a | a
   . exact h.apart k e.1 a.1
   . have:=e.2;omega
 . rcases e with e | e
   . exact Or.inl e.1
   . exact Or.inr (by omega)
end
theorem yZ.then_ {w0 w w':X}{S So l n:Nat->Prop}{g gt:Nat}{m:au}{o:Fm.St}{p:Fm.Td}(a:∀k,l k->S k∨w0.heap.size<=k)(q:∀k,n k->So k∨w0.heap.size<=k)(r:Turns (fun k=>S k∨So k) w0 w)(s:yZ w l n g gt m o p w'):yZ w0 S So g gt m o p w':=by
 obtain⟨t,b,c,d,f,j,u,v⟩:=s;have x:=r.size;refine .mk t b c d f (fun k e=>?_) (fun k e=>?_) (r.trans v (fun i e y=>?_))
 . rcases j k e with e | e
   . exact a k e
   . exact Or.inr (by omega)
 . rcases u k e with e | e
   . exact q k e
   . exact Or.inr (by omega)
 . rcases e with e | e
   . rcases a i e with e | e
     . exact Or.inl e
     . omega
   . rcases q i e with e | e
     . exact Or.inr e
     . omega
theorem JI (w:World)(S So:Nat->Prop)(g gt:Nat)(m:au)(s:Fm.St)(c:UInt8)(t:Fm.Td)(h:ko w S g m s)(hl:Fm.live s)(hp:s.place=0)(hG:Fm.Good m s)(hO:nk w So gt t)(hd:∀k,S k->¬So k)(hm:m.length<=1000)(ha:s.ahead<=2)(hes:t.es.length<=80000)(hbs:t.bs.length<=80000):
 Calls prog 268 #[.pointer (some ⟨g,0,none⟩),.pointer (some ⟨gt,0,none⟩),.int .u8 c.toNat] w fun e w'=>e=.returned (.tuple #[])∧yZ w S So g gt m (Fm.next m s c).1 (Fm.tells t (Fm.next m s c).2) w':=by
 have hP:=Pair.start h hO hd;have hN:Fm.next m s c=({ s with held:=Sk.after m s.held c,ahead:=s.ahead-(Sk.out m s.held c).length,place:=if Sk.found m s.held c then 1 else 0 },if 0<s.parts then Fm.nS ((Sk.out m s.held c).drop s.ahead)++(if Sk.found m s.held c then [Fm.KG] else []) else []):=by
  unfold Fm.next;rw[if_neg (fun k=>k hl),if_pos hp]
 have hol:=Fm.yN m s.held c hG.held;have hhl:=hG.held;cases hP.fm with
 | dead h2 me row=>exact absurd hl h2
 | live h2 me gs gl p fo gL D row inn =>
   have c0:=row.c0;have hne:g≠gs:=fun e=>inn.Ad.1.2 e.symm;have HF:=H9 (ER w g gs s.ahead m s.held c p row.c0 row.c1 (row.fz 1) hne inn.sk hG.held hm (by omega));have hSo:∀w1 a2,mQ w1 gs m (Sk.after m s.held c) p->w.grownBy w1 (some gs)->Pair w S So g gt m { s with held:=Sk.after m s.held c,ahead:=a2 } t (w1.setCell ⟨g,1,none⟩ (.int .i64 ((a2:Nat):Int))):=fun w1 a2 hS hG=>by
    obtain⟨r1,r2⟩:=ko.sought (a2:=a2) hl me row inn hS hG;exact hP.form r1 r2
   have HSo:=H9 hSo;have HN:=H9 hN;have HG:=H9 (And.intro hl hp);have hlt:=row.lt;clear hSo hN row inn hP h hO hd hG hl h2 me;generalize hout:Sk.out m s.held c=out at *;generalize hfd:Sk.found m s.held c=fd at *;generalize haf:Sk.after m s.held c=af at *;go_enter func268,ntmps268;go_wp2_with fail
   refine HF.o.mono ?_;rintro e w2 ⟨w1,ao,cap,n,he,hn,hw,hB,hlo,hS,hGr⟩;rw[hout] at hn hw hB;rw[hfd] at he;rw[haf] at hS;subst he;have hP2:=HSo.o w1 (s.ahead-out.length) hS hGr;have hB2:iG w2 ao cap (out.drop s.ahead):=by
    rw[hw];exact hB.turns (jv.set w1 g 1 _) (fun a e e2=>by have:=hlo a e;omega)
   rw[<-hw] at hP2;have uy:=H9 hP2;have HB2:=H9 hB2;have WE:=H9 hn
   obtain⟨c4,c5,_,fz⟩:=hP2.fm.cells;have f4:=fz 4;have hnl:n<=1001:=by rw[hn,bU];omega
   have HMv:=H9 (fun(W:World) (hW:ko W (fun k=>S k∧k<w.heap.size) g m { s with held:=af,ahead:=s.ahead-out.length })=>hW.move HG.o.1 1 (by decide));clear hP2 hB2 hn hB hS hGr hw hlo fz HF hout hfd haf;have c5:w2.cell? ⟨g,5,none⟩=some (.int .i64 (s.parts:Int)):=c5;by_cases hpt:0<s.parts
   . have tp:decide ((s.parts:Int) > 0)=true:=aH (by omega);have HAB:=H9 (JH w2 _ gt t ao cap n (out.drop s.ahead) uy.o.td HB2.o WE.o.symm (by omega));go_wp2_with fail
     refine HAB.o.mono ?_;rintro e w3 ⟨rfl,hO3,pE⟩;obtain⟨hW3,Yx⟩:=uy.o.told hO3 pE;obtain⟨c4',c5',_,fz⟩:=Yx.cells;have f4':=fz 4;have oC:=H9 hO3;have HW3:=H9 hW3;have HF3:=H9 Yx;have HT3:=H9 pE
     clear hO3 hW3 Yx pE fz HAB c4 f4;have c5':w3.cell? ⟨g,5,none⟩=some (.int .i64 (s.parts:Int)):=c5';cases fd with
     | false =>
       go_wp2;refine gq (results_none rfl _ _ _) rfl ?_;refine⟨rfl,?_⟩;rw[HN.o,if_pos hpt];show yZ w S So g gt m { s with held:=af,ahead:=s.ahead-out.length,place:=0 } (Fm.tells t (Fm.nS (out.drop s.ahead)++[])) w3;rw[bV,Fm.BH];have:({ s with held:=af,ahead:=s.ahead-out.length,place:=0 }:Fm.St)={ s with held:=af,ahead:=s.ahead-out.length }:=by have:=HG.o.2;cases s;simp only at this;subst this;rfl
       rw[this];exact HW3.o
     | true =>
       obtain⟨hm1,hm2⟩:=HMv.o w3 HF3.o;have hTo:=oC.o.turns hm2 (fun k e e2=>by
        rcases e with e | e
        . exact uy.o.apart k e2.1 e.1
        . have:=e2.2;have:=uy.o.turns.size;omega)
       have Tt:=H9 (xU _ _ gt _ 6 ⟨#[]⟩ ⟨#[]⟩ ⟨#[]⟩ 0 hTo (by decide) (by show t.es.length<=90000;omega));have Xj:=H9 hm1;have UZ:=H9 hm2
       have Xk:=hm1.cells.2.1;have Xk:(w3.setCell ⟨g,4,none⟩ (.int .i64 ((1:Nat):Int))).cell? ⟨g,5,none⟩=some (.int .i64 (s.parts:Int)):=Xk;clear hm1 hm2 hTo;go_wp2_with fail
       refine Tt.o.mono ?_;rintro e w5 ⟨rfl,Ez,xP⟩;have tF:=H9 Ez;have Xl:=H9 xP
       clear Ez xP;go_wp2;go_end0
       refine⟨rfl,?_⟩;rw[HN.o,if_pos hpt];show yZ w S So g gt m { s with held:=af,ahead:=s.ahead-out.length,place:=1 } (Fm.tells t (Fm.nS (out.drop s.ahead)++[Fm.KG])) w5;rw[Fm.zD,Fm.BH];have hz:=HT3.o.size;have hz0:=uy.o.turns.size;have hF5:=Xj.o.turns Xl.o (fun k e e2=>by
        rcases e2 with e2 | e2
        . exact uy.o.apart k e.1 e2.1
        . have:=e.2;omega)
       refine .mk _ _ hF5 tF.o (fun k e e2=>?_) (fun _ e=>Or.inl e.1) (fun k e=>?_) (((uy.o.turns.trans HT3.o (fun _ e _=>Or.inr e.1)).trans UZ.o (fun _ e _=>Or.inl e.1)).trans Xl.o (fun i e hi=>?_))
       . rcases e2 with e2 | e2
         . rcases e2 with e2 | e2
           . exact uy.o.apart k e.1 e2.1
           . have:=e.2;omega
         . have:=e.2;simp at e2;omega
       . rcases e with e | e
         . rcases e with e | e
           . exact Or.inl e.1
           . exact Or.inr (by omega)
         . exact Or.inr (by simp at e;omega)
       . rcases e with e | e
         . exact Or.inr e.1
         . omega
   . have tp:decide ((s.parts:Int) > 0)=false:=aI (by omega);cases fd with
     | false =>
       go_wp2;refine gq (results_none rfl _ _ _) rfl ?_;refine⟨rfl,?_⟩;rw[HN.o,if_neg hpt];show yZ w S So g gt m { s with held:=af,ahead:=s.ahead-out.length,place:=0 } t w2;have:({ s with held:=af,ahead:=s.ahead-out.length,place:=0 }:Fm.St)={ s with held:=af,ahead:=s.ahead-out.length }:=by have:=HG.o.2;cases s;simp only at this;subst this;rfl
       rw[this];exact uy.o.went
     | true =>
       obtain⟨hm1,hm2⟩:=HMv.o w2 uy.o.fm;have Xj:=H9 hm1;have UZ:=H9 hm2
       have Xk:=hm1.cells.2.1;have Xk:(w2.setCell ⟨g,4,none⟩ (.int .i64 ((1:Nat):Int))).cell? ⟨g,5,none⟩=some (.int .i64 (s.parts:Int)):=Xk;clear hm1 hm2;go_wp2;go_end0
       refine⟨rfl,?_⟩;rw[HN.o,if_neg hpt];exact(uy.o.form Xj.o UZ.o).went
end Go.Proofs.YtjmndjmhjleabaaGreatDoor