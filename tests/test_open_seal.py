import itertools
import unittest

from eightbytes.refs import open_seal, root, seal
from tests.reference import parts, reference, scattered, stretch

V = reference(address=0x12345678, upper=0x9A, lower=0x56, power=4, rights=0x155)


def sealed(mark):
    return reference(address=0x12345678, upper=0x9A, lower=0x56, power=4, seal=mark, rights=0x155)


def opener(address=3, upper=8, lower=1, power=0, seal=0, rights=256):
    return reference(address, upper, lower, power, seal, rights)


class OpenOrdinary(unittest.TestCase):
    def test_each_seal(self):
        for mark in range(1, 8):
            self.assertEqual(open_seal(sealed(mark), 1, opener(address=mark), 1), [1, V])

    def test_a_written_number(self):
        self.assertEqual(open_seal(0x00D1_0408_0000_000A, 1, 0x800F_00FF_0000_0005, 1), [1, 0x0081_0408_0000_000A])

    def test_with_other_rights_too(self):
        self.assertEqual(open_seal(sealed(3), 1, opener(rights=511), 1), [1, V])

    def test_what_was_sealed_is_as_it_was(self):
        for v, mark in itertools.product((V, 0, root(511)[1], opener(), reference(9, 3, 10, 15)), range(1, 8)):
            number, closed = seal(v, 1, opener(address=mark), 1)
            self.assertEqual(number, 1)
            self.assertNotEqual(closed, v)
            self.assertEqual(open_seal(closed, 1, opener(address=mark, rights=257), 1), [1, v])


class OpenRefusals(unittest.TestCase):
    def check(self, v, good, y, ygood):
        self.assertEqual(open_seal(v, good, y, ygood), [0, v])

    def test_v_not_good(self):
        self.check(sealed(3), 0, opener(), 1)

    def test_y_not_good(self):
        self.check(sealed(3), 1, opener(), 0)

    def test_neither_good(self):
        self.check(sealed(3), 0, opener(), 0)

    def test_v_not_sealed(self):
        for address in range(8):
            self.check(V, 1, opener(address=address), 1)
            # Address 0 is in the stretch here, and is no seal even so.
            self.check(V, 1, opener(address=address, lower=0), 1)
        self.check(V, 0, opener(address=0, lower=0), 1)

    def test_y_sealed(self):
        for mark in range(1, 8):
            self.check(sealed(3), 1, opener(seal=mark), 1)

    def test_y_without_the_right(self):
        for rights in (0, 1, 128, 255):
            self.check(sealed(3), 1, opener(rights=rights), 1)

    def test_that_v_has_the_right_does_not_help(self):
        self.check(reference(address=3, upper=8, lower=1, seal=3, rights=511), 1, opener(rights=255), 1)

    def test_another_address(self):
        for mark, address in itertools.product(range(1, 8), range(256)):
            if address != mark:
                self.check(sealed(mark), 1, opener(address=address, upper=9, lower=10), 1)
                self.check(sealed(mark), 1, opener(address=address, upper=255, lower=0, power=15), 1)

    def test_an_address_alike_in_its_lowest_bits_alone(self):
        for more in (8, 16, 2 ** 16, 2 ** 31):
            self.check(sealed(3), 1, opener(address=3 + more, upper=255, lower=0, power=15), 1)


class OpenStretch(unittest.TestCase):
    def check(self, mark, number, **given):
        answer = [1, V] if number == 1 else [0, sealed(mark)]
        self.assertEqual(open_seal(sealed(mark), 1, opener(address=mark, **given), 1), answer)

    def test_where_the_stretch_begins_and_ends(self):
        # The stretch is from 2 up to 5.
        for mark, number in ((1, 0), (2, 1), (3, 1), (4, 1), (5, 0), (6, 0), (7, 0)):
            self.check(mark, number, upper=5, lower=2)

    def test_grains_of_4(self):
        # The stretch is from 4 up to 8.
        for mark, number in ((1, 0), (3, 0), (4, 1), (7, 1)):
            self.check(mark, number, upper=2, lower=1, power=2)

    def test_an_empty_stretch(self):
        for mark, both in itertools.product(range(1, 8), range(9)):
            self.check(mark, 0, upper=both, lower=both)

    def test_upper_below_lower(self):
        # From -6 up to 5.
        self.check(4, 1, upper=5, lower=250)
        self.check(5, 0, upper=5, lower=250)

    def test_a_stretch_below_0(self):
        self.check(3, 0, upper=8, lower=5)

    def test_power_15(self):
        self.check(3, 1, upper=1, lower=0, power=15)
        self.check(3, 0, upper=2, lower=1, power=15)


class OpenMany(unittest.TestCase):
    def check(self, v, good, y, ygood):
        address, upper, lower, power, mark, rights = parts(v)
        place, _, _, _, ymark, yrights = parts(y)
        begin, end = stretch(y)
        both = good == 1 and ygood == 1 and mark != 0 and ymark == 0
        if both and yrights >= 256 and place == mark and begin <= place < end:
            self.assertEqual(open_seal(v, good, y, ygood), [1, reference(address, upper, lower, power, 0, rights)])
        else:
            self.assertEqual(open_seal(v, good, y, ygood), [0, v])

    def test_mixed_edges(self):
        marks = (0, 1, 2, 5, 255)
        for mark, upper, lower, power in itertools.product(range(8), marks, marks, (0, 1, 3, 14, 15)):
            for good, ygood, ymark, rights in ((1, 1, 0, 256), (1, 1, 0, 255), (1, 1, 2, 511), (0, 1, 0, 256),
                                               (1, 0, 0, 256)):
                for place in (mark, mark + 1):
                    self.check(sealed(mark), good, reference(place, upper, lower, power, ymark, rights), ygood)

    def test_scattered(self):
        for v in scattered(500):
            y = (v * 5 + 3) % 2 ** 64 & ~(7 << 52) & ~(2 ** 32 - 1)
            for good, ygood in itertools.product((0, 1), (0, 1)):
                self.check(v, good, y | parts(v)[4], ygood)
                self.check(v, good, y | v % 9, ygood)
                self.check(v, good, v, ygood)


if __name__ == "__main__":
    unittest.main()
